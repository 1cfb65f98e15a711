package tests

import (
	"math"
	"math/big"
	"math/rand"
	"slices"
	"testing"

	"loop.example/g00851/impl"
)

// goodRows are rows, among them the shortest and the longest ones and the smallest and the largest numbers.
func goodRows() [][]int64 {
	mixed := make([]int64, impl.MaxRow)
	for i := range mixed {
		mixed[i] = int64(i) * 20000003 % (impl.MaxNum + 1)
	}
	return [][]int64{
		nil, {}, {0}, {1}, {impl.MaxNum}, {0, 0}, {0, 5}, {5, 0}, {0, 5, impl.MaxNum}, {impl.MaxNum, 0, 1},
		mixed[:46], mixed[:47], mixed,
		repeated(46, 0), repeated(47, 0), repeated(48, 0),
		repeated(46, impl.MaxNum), repeated(47, impl.MaxNum), repeated(48, impl.MaxNum),
	}
}

// badRows are slices that are not rows, for one reason each.
func badRows() [][]int64 {
	last := repeated(48, 3)
	last[47] = impl.MaxNum + 1
	first := repeated(48, 3)
	first[0] = -1
	return [][]int64{
		{-1}, {impl.MaxNum + 1}, {math.MinInt64}, {math.MaxInt64},
		{0, 5, -1}, {-1, 5, 0}, {0, impl.MaxNum + 1, 0}, first, last,
		repeated(49, 0), repeated(49, impl.MaxNum), repeated(1000, 1),
	}
}

func TestLimitsOfRows(t *testing.T) {
	if impl.MaxRow != 48 || impl.MaxNum != 1000000000 {
		t.Fatal(impl.MaxRow, impl.MaxNum)
	}
}

func TestRowOk(t *testing.T) {
	for _, row := range goodRows() {
		if !impl.RowOk(row) {
			t.Errorf("%v is a row", row)
		}
	}
	for _, row := range badRows() {
		if impl.RowOk(row) {
			t.Errorf("%v is not a row", row)
		}
	}
}

func TestSameRow(t *testing.T) {
	all := append(goodRows(), badRows()...)
	for _, a := range all {
		for _, b := range all {
			if got, want := impl.SameRow(a, b), slices.Equal(a, b); got != want {
				t.Errorf("SameRow(%v, %v): got %v, want %v", a, b, got, want)
			}
		}
		if !impl.SameRow(a, slices.Clone(a)) {
			t.Errorf("%v is the same as its copy", a)
		}
	}
	if !impl.SameRow(nil, []int64{}) || !impl.SameRow([]int64{}, nil) {
		t.Error("nil and empty are the same")
	}
}

// sumByHand is the definition of the checksum in numbers without a limit.
func sumByHand(row []int64) int64 {
	s, modulus := big.NewInt(7), big.NewInt(999999937)
	for _, x := range row {
		s.Mul(s, big.NewInt(131))
		s.Add(s, big.NewInt(x))
		s.Add(s, big.NewInt(1))
		s.Mod(s, modulus)
	}
	return s.Int64()
}

func TestSumOf(t *testing.T) {
	for _, c := range []struct {
		row  []int64
		want int64
	}{
		{nil, 7}, {[]int64{}, 7}, {[]int64{0}, 918}, {[]int64{0, 5}, 120264},
		{[]int64{999999018}, 999999936}, {[]int64{999999019}, 0}, {[]int64{impl.MaxNum}, 981},
	} {
		if got := impl.SumOf(c.row); got != c.want {
			t.Errorf("SumOf(%v): got %d, want %d", c.row, got, c.want)
		}
	}
	for _, row := range goodRows() {
		if got, want := impl.SumOf(row), sumByHand(row); got != want {
			t.Errorf("SumOf(%v): got %d, want %d", row, got, want)
		}
	}
	for _, row := range badRows() {
		if got := impl.SumOf(row); got != -1 {
			t.Errorf("SumOf(%v): got %d, want -1", row, got)
		}
	}
}

func TestWithSumAndBack(t *testing.T) {
	for _, row := range goodRows() {
		summed := impl.WithSum(row)
		if len(row) == impl.MaxRow {
			equalInts(t, "WithSum of a row that is full", summed, nil)
			continue
		}
		equalInts(t, "WithSum", summed, append(slices.Clone(row), sumByHand(row)))
		back, ok := impl.Unsummed(summed)
		if !ok {
			t.Errorf("Unsummed(%v) finds nothing", summed)
		}
		equalInts(t, "Unsummed", back, row)
	}
	for _, row := range badRows() {
		equalInts(t, "WithSum of no row", impl.WithSum(row), nil)
	}
}

func wantUnsummedNothing(t *testing.T, row []int64) {
	t.Helper()
	if back, ok := impl.Unsummed(row); ok || len(back) != 0 {
		t.Errorf("Unsummed(%v): got %v %v, want nothing", row, back, ok)
	}
}

func TestUnsummedOfNoSummedRow(t *testing.T) {
	for _, row := range [][]int64{
		nil, {}, {0}, {6}, {8}, {918}, {0, 917}, {0, 919}, {918, 0}, {0, 5}, {0, 5, 120265}, {-1, 7}, {-1},
		{7, 7}, {0, impl.MaxNum + 1}, {0, -1},
		// A checksum is less than the modulus; a number that equals it only modulo that is another one.
		{999999019, 999999937}, {7 + 999999937},
	} {
		wantUnsummedNothing(t, row)
	}
	// The sums of these are right, but WithSum has no result of that length, or none for these numbers.
	full := repeated(48, 0)
	wantUnsummedNothing(t, append(full, sumByHand(full)))
	wantUnsummedNothing(t, append([]int64{-1}, sumByHand([]int64{-1})))
	wantUnsummedNothing(t, append([]int64{impl.MaxNum + 1}, sumByHand([]int64{impl.MaxNum + 1})))
	if back, ok := impl.Unsummed([]int64{7}); !ok || len(back) != 0 {
		t.Error("the empty row with its checksum", back, ok)
	}
	if back, ok := impl.Unsummed([]int64{999999019, 0}); !ok || !slices.Equal(back, []int64{999999019}) {
		t.Error("a checksum 0", back, ok)
	}
}

func TestUnsummedFindsEveryChange(t *testing.T) {
	for _, row := range goodRows() {
		summed := impl.WithSum(row)
		for i, x := range summed {
			for _, y := range []int64{x - 1, x + 1, (x + 131) % 999999937} {
				bent := slices.Clone(summed)
				bent[i] = y
				wantUnsummedNothing(t, bent)
			}
		}
		for short := range summed {
			wantUnsummedNothing(t, summed[:short])
		}
	}
}

// listsOfRows are lists that can be packed, with their packed forms.
func listsOfRows() [][2][][]int64 {
	half := repeated(23, impl.MaxNum)
	return [][2][][]int64{
		{nil, {{0}}},
		{{}, {{0}}},
		{{nil}, {{1, 0}}},
		{{{}}, {{1, 0}}},
		{{nil, {}}, {{2, 0, 0}}},
		{{{0}}, {{1, 1, 0}}},
		{{{impl.MaxNum}}, {{1, 1, impl.MaxNum}}},
		{{{4, 5}, nil, {6}}, {{3, 2, 4, 5, 0, 1, 6}}},
		{{{6}, nil, {4, 5}}, {{3, 1, 6, 0, 2, 4, 5}}},
		{{{1, 2}, {3}}, {{2, 2, 1, 2, 1, 3}}},
		{{{1}, {2, 3}}, {{2, 1, 1, 2, 2, 3}}},
		{{repeated(46, impl.MaxNum)}, {append([]int64{1, 46}, repeated(46, impl.MaxNum)...)}},
		{{half, half[:22]}, {slices.Concat([]int64{2, 23}, half, []int64{22}, half[:22])}},
		{make([][]int64, 47), {append([]int64{47}, repeated(47, 0)...)}},
	}
}

func TestPackedAndBack(t *testing.T) {
	for _, c := range listsOfRows() {
		rows, want := c[0], c[1][0]
		packed := impl.Packed(rows)
		equalInts(t, "Packed", packed, want)
		back, ok := impl.Unpacked(want)
		if !ok {
			t.Errorf("Unpacked(%v) finds nothing", want)
		}
		equalRows(t, "Unpacked", back, rows)
	}
}

func TestPackedOfWhatDoesNotFit(t *testing.T) {
	half := repeated(23, 1)
	for _, rows := range [][][]int64{
		{repeated(47, 0)}, {repeated(48, 0)}, {half, half}, {half, nil, half[:22]},
		{repeated(46, 0), nil}, {nil, repeated(46, 0)},
		make([][]int64, 48), make([][]int64, 49), make([][]int64, 100000),
	} {
		equalInts(t, "Packed of too much", impl.Packed(rows), nil)
	}
	for _, bad := range badRows() {
		equalInts(t, "Packed of no row", impl.Packed([][]int64{bad}), nil)
		equalInts(t, "Packed of rows and no row", impl.Packed([][]int64{{1}, bad}), nil)
		equalInts(t, "Packed of no row and rows", impl.Packed([][]int64{bad, {1}}), nil)
	}
}

func wantUnpackedNothing(t *testing.T, row []int64) {
	t.Helper()
	if back, ok := impl.Unpacked(row); ok || len(back) != 0 {
		t.Errorf("Unpacked(%v): got %v %v, want nothing", row, back, ok)
	}
}

func TestUnpackedOfNoPackedRow(t *testing.T) {
	for _, row := range [][]int64{
		nil, {}, {1}, {2}, {2, 0}, {1, 1}, {1, 2, 4}, {2, 1, 5}, {2, 1, 5, 1},
		{0, 0}, {0, 1}, {1, 0, 0}, {1, 1, 4, 4}, {3, 2, 4, 5, 0, 1, 6, 0}, {3, 2, 4, 5, 0, 1},
		{impl.MaxNum}, {impl.MaxNum, 0}, {1, impl.MaxNum}, {1, impl.MaxNum, 1},
		{-1}, {1, -1}, {1, 1, -1}, {1, 1, impl.MaxNum + 1}, {math.MaxInt64}, {1, math.MaxInt64},
		{math.MinInt64}, {1, math.MinInt64}, {2, 1, 7, -1, 7},
		append([]int64{48}, repeated(48, 0)...), append([]int64{1, 47}, repeated(47, 0)...), repeated(49, 0),
	} {
		wantUnpackedNothing(t, row)
	}
	for _, c := range listsOfRows() {
		whole := c[1][0]
		for short := range whole {
			wantUnpackedNothing(t, whole[:short])
		}
		wantUnpackedNothing(t, append(slices.Clone(whole), 0))
	}
	for _, bad := range badRows() {
		wantUnpackedNothing(t, bad)
		wantUnpackedNothing(t, append([]int64{1, int64(len(bad))}, bad...))
	}
}

// smallRows returns every slice of at most this length with the numbers 0 to top.
func smallRows(length int, top int64) [][]int64 {
	all := [][]int64{{}}
	for first, last := 0, 1; length > 0; length-- {
		for _, row := range all[first:last] {
			for x := range top + 1 {
				all = append(all, append(slices.Clone(row), x))
			}
		}
		first, last = last, len(all)
	}
	return all
}

// smallLists calls use with every list of small rows that has at most room numbers, each row counting one more.
func smallLists(room int, top int64, list [][]int64, use func([][]int64)) {
	use(list)
	for _, row := range smallRows(room-1, top) {
		if room > 0 {
			smallLists(room-1-len(row), top, append(slices.Clone(list), row), use)
		}
	}
}

// Every short slice is the packed form of exactly the lists that have it, which is one or none.
func TestUnpackedOfEveryShortRow(t *testing.T) {
	const room, top = 5, 5
	lists := map[string][][]int64{}
	smallLists(room, top, nil, func(rows [][]int64) {
		packed := impl.Packed(rows)
		if before, taken := lists[textOf(packed)]; taken || len(packed) == 0 {
			t.Fatalf("%v and %v are both packed as %v", before, rows, packed)
		}
		lists[textOf(packed)] = rows
	})
	for _, row := range smallRows(1+room, top) {
		want, is := lists[textOf(row)]
		got, ok := impl.Unpacked(row)
		if ok != is {
			t.Fatalf("Unpacked(%v): got %v, want %v", row, ok, is)
		}
		equalRows(t, "Unpacked", got, want)
	}
}

// randomRow returns a row or, seldom, something that is not quite one.
func randomRow(r *rand.Rand, top int) []int64 {
	row := make([]int64, r.Intn(top+1))
	for i := range row {
		switch r.Intn(12) {
		case 0:
			row[i] = impl.MaxNum
		case 1:
			row[i] = int64(r.Intn(impl.MaxNum))
		case 2:
			if r.Intn(60) == 0 {
				row[i] = impl.MaxNum + 1
			}
		default:
			row[i] = int64(r.Intn(4))
		}
	}
	return row
}

func TestInverseForRandomRows(t *testing.T) {
	r := rand.New(rand.NewSource(1))
	for range 20000 {
		row := randomRow(r, 50)
		if summed := impl.WithSum(row); len(summed) > 0 {
			back, ok := impl.Unsummed(summed)
			if !ok || !slices.Equal(back, row) {
				t.Fatal(row, summed, back, ok)
			}
		} else if impl.RowOk(row) && len(row) < impl.MaxRow {
			t.Fatal("no WithSum of", row)
		}
		rows, size := make([][]int64, r.Intn(8)), 1
		valid := true
		for i := range rows {
			rows[i] = randomRow(r, 10)
			size += 1 + len(rows[i])
			valid = valid && impl.RowOk(rows[i])
		}
		packed := impl.Packed(rows)
		if (len(packed) > 0) != (valid && size <= impl.MaxRow) {
			t.Fatal("Packed", rows, packed)
		}
		if len(packed) == 0 {
			continue
		}
		back, ok := impl.Unpacked(packed)
		if !ok || !slices.EqualFunc(back, rows, slices.Equal[[]int64]) {
			t.Fatal(rows, packed, back, ok)
		}
	}
	for range 20000 {
		row := randomRow(r, 12)
		if back, ok := impl.Unpacked(row); ok && !slices.Equal(impl.Packed(back), row) {
			t.Fatal(row, back)
		}
		if back, ok := impl.Unsummed(row); ok && !slices.Equal(impl.WithSum(back), row) {
			t.Fatal(row, back)
		}
	}
}

// unchanged fails the test if a call has changed the array behind its argument.
func unchanged(t *testing.T, what string, whole []int64, call func()) {
	t.Helper()
	before := slices.Clone(whole)
	call()
	if !slices.Equal(before, whole) {
		t.Errorf("%s has changed its argument: %v, before %v", what, whole, before)
	}
}

func TestRowsChangeNoArgument(t *testing.T) {
	for _, row := range append(goodRows(), badRows()...) {
		s, whole := roomy(row...)
		other, _ := roomy(row...)
		unchanged(t, "RowOk", whole, func() { impl.RowOk(s) })
		unchanged(t, "SameRow", whole, func() { impl.SameRow(s, other); impl.SameRow(other, s) })
		unchanged(t, "SumOf", whole, func() { impl.SumOf(s) })
		unchanged(t, "WithSum", whole, func() { wiped(impl.WithSum(s)) })
		unchanged(t, "Packed", whole, func() { wiped(impl.Packed([][]int64{s})) })
		summed, behind := roomy(impl.WithSum(row)...)
		unchanged(t, "Unsummed", behind, func() {
			back, _ := impl.Unsummed(summed)
			wiped(back)
		})
	}
	for _, c := range listsOfRows() {
		packed, whole := roomy(c[1][0]...)
		unchanged(t, "Unpacked", whole, func() {
			back, _ := impl.Unpacked(packed)
			for _, row := range back {
				wiped(row)
			}
		})
	}
	list := [][]int64{{1}, {2}, {3}, {9}}
	impl.Packed(list[:3])
	equalRows(t, "the list that was packed", list, [][]int64{{1}, {2}, {3}, {9}})
}

func TestRowsShareNoMemory(t *testing.T) {
	s, whole := roomy(0, 5)
	summed := impl.WithSum(s)
	packed := impl.Packed([][]int64{s, s})
	wiped(whole)
	equalInts(t, "WithSum, its argument wiped", summed, []int64{0, 5, 120264})
	equalInts(t, "Packed, its argument wiped", packed, []int64{2, 2, 0, 5, 2, 0, 5})

	s, whole = roomy(0, 5, 120264)
	plain, _ := impl.Unsummed(s)
	wiped(whole)
	equalInts(t, "Unsummed, its argument wiped", plain, []int64{0, 5})

	s, whole = roomy(4, 2, 4, 5, 0, 1, 6, 2, 7, 8)
	rows, _ := impl.Unpacked(s)
	wiped(whole)
	want := [][]int64{{4, 5}, {}, {6}, {7, 8}}
	equalRows(t, "Unpacked, its argument wiped", rows, want)
	for i := range rows {
		wiped(rows[i])
		rows[i] = slices.Clone(want[i])
		equalRows(t, "Unpacked, one row of it wiped", rows, want)
	}
}
