package tests

import (
	"math"
	"math/rand"
	"slices"
	"strconv"
	"testing"

	"loop.example/g00851/impl"
)

// twoText writes both disks with all their numbers; nil and empty slices are written alike.
func twoText(x impl.Two) string { return "A " + diskText(x.A) + "B " + diskText(x.B) }

// equalTwos fails the test if got and want differ.
func equalTwos(t *testing.T, what string, got, want impl.Two) {
	t.Helper()
	if twoText(got) != twoText(want) {
		t.Errorf("%s: got %s, want %s", what, twoText(got), twoText(want))
	}
}

// clonedTwo returns a pair with memory of its own.
func clonedTwo(x impl.Two) impl.Two { return impl.Two{A: clonedDisk(x.A), B: clonedDisk(x.B)} }

// summedByHand returns the row followed by its checksum, as the definition says.
func summedByHand(row []int64) []int64 { return append(slices.Clone(row), sumByHand(row)) }

// wroteByHand returns the pair with one more waiting write on each disk.
func wroteByHand(x impl.Two, at int64, row []int64) impl.Two {
	w := impl.Write{At: at, Row: summedByHand(row)}
	return impl.Two{A: waiting(x.A, w), B: waiting(x.B, w)}
}

// syncedByHand returns the disk with its last waiting write to each sector in the sector.
func syncedByHand(d impl.Disk) impl.Disk { return fallenByHand(d, repeated(len(d.Wait), impl.FtKept)) }

// bothSyncedByHand is the definition of BothSynced.
func bothSyncedByHand(x impl.Two) impl.Two {
	return impl.Two{A: syncedByHand(x.A), B: syncedByHand(x.B)}
}

// bothFallenByHand is the definition of BothFallen: the fates are dealt to A and B in turn.
func bothFallenByHand(x impl.Two, fates []int64) impl.Two {
	var dealt [2][]int64
	for i, fate := range fates {
		dealt[i%2] = append(dealt[i%2], fate)
	}
	return impl.Two{A: fallenByHand(x.A, dealt[0]), B: fallenByHand(x.B, dealt[1])}
}

// rightByHand is the definition of RightAt for a sector that exists.
func rightByHand(x impl.Two, at int64) [][]int64 {
	var right [][]int64
	for _, row := range [][]int64{syncedByHand(x.A).Kept[at], syncedByHand(x.B).Kept[at]} {
		if len(row) == 0 || sumByHand(row[:len(row)-1]) != row[len(row)-1] {
			continue
		}
		if plain := row[:len(row)-1]; len(right) == 0 || !slices.Equal(right[0], plain) {
			right = append(right, plain)
		}
	}
	return right
}

// summedDisk returns a disk whose sectors have these rows with their checksums.
func summedDisk(rows ...[]int64) impl.Disk {
	var d impl.Disk
	for _, row := range rows {
		d.Kept = append(d.Kept, summedByHand(row))
	}
	return d
}

// summableRows are the rows that have a WithSum, the longest ones included.
func summableRows() [][]int64 {
	return slices.DeleteFunc(goodRows(), func(row []int64) bool { return len(row) > 47 })
}

// unsummableRows have no WithSum: they are too long, or no rows.
func unsummableRows() [][]int64 {
	return append(badRows(), repeated(48, 0), repeated(48, 1), repeated(48, impl.MaxNum), upTo(48))
}

// goodTwos are valid: all pairs of good disks with equally many sectors, and disks of rows with checksums.
func goodTwos() []impl.Two {
	disks := append(goodDisks(), summedDisk(nil), summedDisk([]int64{0, 5}), summedDisk(nil, []int64{1}, []int64{2, 3}),
		waiting(summedDisk([]int64{4}, []int64{1}, nil), impl.Write{At: 2, Row: summedByHand([]int64{6})}))
	var all []impl.Two
	for _, a := range disks {
		for _, b := range disks {
			if len(a.Kept) == len(b.Kept) {
				all = append(all, impl.Two{A: a, B: b})
			}
		}
	}
	return all
}

// badTwos are not valid: one disk or both are not valid, or they have different numbers of sectors.
func badTwos() []impl.Two {
	bad := []impl.Two{{}}
	for _, d := range badDisks() {
		good := diskOf(nil)
		if many := len(d.Kept); many >= 1 && many <= 40 {
			good = impl.Disk{Kept: make([][]int64, many)}
		}
		bad = append(bad, impl.Two{A: d, B: d}, impl.Two{A: d, B: good}, impl.Two{A: good, B: d})
	}
	for _, a := range goodDisks() {
		for _, b := range goodDisks() {
			if len(a.Kept) != len(b.Kept) {
				bad = append(bad, impl.Two{A: a, B: b})
			}
		}
	}
	return bad
}

func TestTwoOk(t *testing.T) {
	for _, x := range goodTwos() {
		if !impl.TwoOk(x) {
			t.Errorf("a valid pair: %s", twoText(x))
		}
	}
	for _, x := range badTwos() {
		if impl.TwoOk(x) {
			t.Errorf("not a valid pair: %s", twoText(x))
		}
	}
	for a := range 42 {
		for b := range 42 {
			x := impl.Two{A: impl.Disk{Kept: make([][]int64, a)}, B: impl.Disk{Kept: make([][]int64, b)}}
			if got, want := impl.TwoOk(x), a == b && a >= 1 && a <= 40; got != want {
				t.Errorf("TwoOk of %d and %d sectors: got %v, want %v", a, b, got, want)
			}
		}
	}
}

func TestNewTwo(t *testing.T) {
	for sectors := int64(1); sectors <= 40; sectors++ {
		x, empty := impl.NewTwo(sectors), impl.Disk{Kept: make([][]int64, sectors)}
		equalTwos(t, "NewTwo", x, impl.Two{A: empty, B: empty})
		if !impl.TwoOk(x) || !impl.EqualIn(x) {
			t.Errorf("NewTwo(%d) is not valid or not equal", sectors)
		}
		for at := range sectors {
			equalRows(t, "RightAt of a new sector", impl.RightAt(x, at), nil)
		}
	}
	for _, sectors := range []int64{0, -1, 41, -40, 1 << 32, 1<<32 + 1, math.MinInt64, math.MaxInt64} {
		equalTwos(t, "NewTwo out of range", impl.NewTwo(sectors), impl.Two{})
	}
}

// wantBothWrote fails the test if a row is not written to both disks.
func wantBothWrote(t *testing.T, x impl.Two, at int64, row []int64) {
	t.Helper()
	got, ok := impl.BothWrote(x, at, row)
	if !ok {
		t.Errorf("BothWrote %v to %d is not possible: %s", row, at, twoText(x))
	}
	want := wroteByHand(x, at, row)
	equalTwos(t, "BothWrote", got, want)
	equalTwos(t, "MendedAt", impl.MendedAt(x, at, row), bothSyncedByHand(want))
}

// wantNotBothWrote fails the test if a row is written or mended, or anything else than want remains.
func wantNotBothWrote(t *testing.T, x impl.Two, at int64, row []int64, want impl.Two) {
	t.Helper()
	got, ok := impl.BothWrote(x, at, row)
	if ok {
		t.Errorf("BothWrote %v to %d: %s", row, at, twoText(x))
	}
	equalTwos(t, "BothWrote what cannot be written", got, want)
	equalTwos(t, "MendedAt with what cannot be written", impl.MendedAt(x, at, row), want)
}

func TestBothWroteAndMendedAt(t *testing.T) {
	x := impl.Two{A: diskOf(nil, []int64{1}), B: diskOf([]int64{2}, nil)}
	got, ok := impl.BothWrote(x, 1, []int64{0, 5})
	if !ok {
		t.Error("BothWrote is not possible")
	}
	w := impl.Write{At: 1, Row: []int64{0, 5, 120264}}
	equalTwos(t, "BothWrote", got, impl.Two{A: waiting(x.A, w), B: waiting(x.B, w)})
	equalTwos(t, "MendedAt", impl.MendedAt(x, 1, []int64{0, 5}), impl.Two{A: diskOf(nil, w.Row), B: diskOf([]int64{2}, w.Row)})
	equalTwos(t, "MendedAt with an empty row", impl.MendedAt(x, 0, nil), impl.Two{A: diskOf([]int64{7}, []int64{1}), B: diskOf([]int64{7}, nil)})
	for _, x := range goodTwos() {
		full := len(x.A.Wait) == 60 || len(x.B.Wait) == 60
		for _, at := range []int64{0, int64(len(x.A.Kept)) / 2, int64(len(x.A.Kept)) - 1} {
			for _, row := range summableRows() {
				if full {
					wantNotBothWrote(t, x, at, row, x)
				} else {
					wantBothWrote(t, x, at, row)
				}
			}
		}
	}
}

func TestBothWroteNothing(t *testing.T) {
	for _, x := range goodTwos() {
		for _, at := range noSectors(len(x.A.Kept)) {
			wantNotBothWrote(t, x, at, []int64{1}, x)
			wantNotBothWrote(t, x, at, nil, x)
			wantNotBothWrote(t, x, at, []int64{-1}, x)
		}
		for _, row := range unsummableRows() {
			wantNotBothWrote(t, x, 0, row, x)
			wantNotBothWrote(t, x, int64(len(x.A.Kept))-1, row, x)
		}
	}
}

// The writes that wait on one disk alone count as well, and the other disk is then not written.
func TestBothWroteWhileManyWait(t *testing.T) {
	for _, many := range [][2]int{{0, 0}, {0, 59}, {59, 0}, {58, 59}, {59, 59}, {60, 0}, {0, 60}, {59, 60}, {60, 59}, {60, 60}} {
		x := impl.Two{A: waiting(impl.NewDisk(3), manyWrites(many[0], 3)...), B: waiting(impl.NewDisk(3), manyWrites(many[1], 3)...)}
		if many[0] < 60 && many[1] < 60 {
			wantBothWrote(t, x, 2, []int64{4, 5})
		} else {
			wantNotBothWrote(t, x, 2, []int64{4, 5}, x)
			wantBothWrote(t, impl.BothSynced(x), 2, []int64{4, 5})
			wantBothWrote(t, impl.BothFallen(x, nil), 2, []int64{4, 5})
		}
	}
	x := impl.NewTwo(2)
	for i := range int64(60) {
		wantBothWrote(t, x, i%2, []int64{i})
		x, _ = impl.BothWrote(x, i%2, []int64{i})
	}
	wantNotBothWrote(t, x, 0, nil, x)
}

func TestBothSynced(t *testing.T) {
	x := impl.Two{
		A: waiting(diskOf([]int64{1}, []int64{2}), impl.Write{At: 0, Row: []int64{3}}, impl.Write{At: 0, Row: []int64{4, 5}}),
		B: waiting(diskOf([]int64{6}, []int64{7}), impl.Write{At: 1}),
	}
	equalTwos(t, "BothSynced", impl.BothSynced(x), impl.Two{A: diskOf([]int64{4, 5}, []int64{2}), B: diskOf([]int64{6}, nil)})
	for _, x := range goodTwos() {
		want := bothSyncedByHand(x)
		equalTwos(t, "BothSynced", impl.BothSynced(x), want)
		equalTwos(t, "BothSynced again", impl.BothSynced(want), want)
	}
}

// fallingTwo has two waiting writes on A and three on B.
func fallingTwo() impl.Two {
	return impl.Two{
		A: waiting(diskOf([]int64{1, 2, 3}, nil), impl.Write{At: 0, Row: []int64{11, 12}}, impl.Write{At: 1, Row: []int64{13}}),
		B: waiting(diskOf([]int64{4, 5, 6}, nil), impl.Write{At: 0, Row: []int64{21, 22}}, impl.Write{At: 1, Row: []int64{23}}, impl.Write{At: 0, Row: []int64{24}}),
	}
}

func TestBothFallen(t *testing.T) {
	const lost, kept, torn = impl.FtLost, impl.FtKept, impl.FtTorn
	old, new0 := [2][]int64{{1, 2, 3}, {4, 5, 6}}, [2][]int64{{11, 12}, {21, 22}}
	for _, c := range []struct {
		fates []int64
		a, b  [][]int64
	}{
		// fewer fates than writes, so that the others are lost
		{nil, [][]int64{old[0], nil}, [][]int64{old[1], nil}},
		{[]int64{kept}, [][]int64{new0[0], nil}, [][]int64{old[1], nil}},
		{[]int64{lost, kept}, [][]int64{old[0], nil}, [][]int64{new0[1], nil}},
		{[]int64{torn, lost}, [][]int64{{11, 2, 3}, nil}, [][]int64{old[1], nil}},
		{[]int64{lost, torn}, [][]int64{old[0], nil}, [][]int64{{21, 5, 6}, nil}},
		{[]int64{lost, lost, kept}, [][]int64{old[0], {13}}, [][]int64{old[1], nil}},
		{[]int64{lost, lost, lost, kept}, [][]int64{old[0], nil}, [][]int64{old[1], {23}}},
		{[]int64{kept, kept, kept, kept}, [][]int64{new0[0], {13}}, [][]int64{new0[1], {23}}},
		// as many as the writes of the one or of both
		{[]int64{lost, lost, lost, lost, lost, kept}, [][]int64{old[0], nil}, [][]int64{{24}, nil}},
		{[]int64{lost, kept, lost, lost, lost, torn}, [][]int64{old[0], nil}, [][]int64{new0[1], nil}},
		{[]int64{kept, kept, kept, kept, kept, kept}, [][]int64{new0[0], {13}}, [][]int64{{24}, {23}}},
		// the even ones alone, the odd ones alone
		{[]int64{kept, lost, kept, lost, kept, lost}, [][]int64{new0[0], {13}}, [][]int64{old[1], nil}},
		{[]int64{lost, kept, lost, kept, lost, kept}, [][]int64{old[0], nil}, [][]int64{{24}, {23}}},
		// more fates than writes, and numbers that are no fates
		{[]int64{lost, lost, lost, lost, kept, lost, kept, kept, kept, torn}, [][]int64{old[0], nil}, [][]int64{old[1], nil}},
		{repeated(200, kept), [][]int64{new0[0], {13}}, [][]int64{{24}, {23}}},
		{[]int64{3, kept, -1, 3}, [][]int64{old[0], nil}, [][]int64{new0[1], nil}},
		{[]int64{kept, 3, 257, math.MinInt64, 5, math.MaxInt64}, [][]int64{new0[0], nil}, [][]int64{old[1], nil}},
	} {
		got := impl.BothFallen(fallingTwo(), c.fates)
		equalTwos(t, "BothFallen with "+textOf(c.fates), got, impl.Two{A: diskOf(c.a...), B: diskOf(c.b...)})
	}
}

// Every fate of every write of both disks.
func TestBothFallenWithEveryFate(t *testing.T) {
	for _, x := range []impl.Two{fallingTwo(), {A: fallingTwo().B, B: fallingTwo().A}} {
		for _, fates := range smallRows(7, 2) {
			if got, want := impl.BothFallen(x, fates), bothFallenByHand(x, fates); twoText(got) != twoText(want) {
				t.Fatalf("BothFallen with %v: got %s, want %s", fates, twoText(got), twoText(want))
			}
		}
	}
}

func TestBothFallenOfGoodTwos(t *testing.T) {
	r := rand.New(rand.NewSource(4))
	for _, x := range goodTwos() {
		equalTwos(t, "BothFallen without fates", impl.BothFallen(x, nil), impl.Two{A: diskOf(x.A.Kept...), B: diskOf(x.B.Kept...)})
		equalTwos(t, "BothFallen with all kept", impl.BothFallen(x, repeated(120, impl.FtKept)), bothSyncedByHand(x))
		for range 20 {
			fates := make([]int64, r.Intn(130))
			for i := range fates {
				fates[i] = r.Int63n(4)
			}
			equalTwos(t, "BothFallen", impl.BothFallen(x, fates), bothFallenByHand(x, fates))
		}
	}
}

func TestRightAt(t *testing.T) {
	one, two, none := summedByHand([]int64{0, 5}), summedByHand([]int64{9}), summedByHand(nil)
	damaged := slices.Clone(one)
	damaged[1]++
	for _, c := range []struct {
		a, b []int64
		want [][]int64
	}{
		// equal, and different: A takes precedence
		{one, one, [][]int64{{0, 5}}},
		{none, none, [][]int64{{}}},
		{one, two, [][]int64{{0, 5}, {9}}},
		{two, one, [][]int64{{9}, {0, 5}}},
		{none, one, [][]int64{{}, {0, 5}}},
		{one, none, [][]int64{{0, 5}, {}}},
		// different although the one begins as the other
		{summedByHand([]int64{4}), summedByHand([]int64{4, 4}), [][]int64{{4}, {4, 4}}},
		// valid on A alone, on B alone, and on neither
		{one, damaged, [][]int64{{0, 5}}},
		{one, nil, [][]int64{{0, 5}}},
		{none, nil, [][]int64{{}}},
		{none, damaged, [][]int64{{}}},
		{damaged, one, [][]int64{{0, 5}}},
		{nil, one, [][]int64{{0, 5}}},
		{nil, none, [][]int64{{}}},
		{damaged, none, [][]int64{{}}},
		{damaged, damaged, nil},
		{nil, nil, nil},
		{damaged, nil, nil},
		{nil, damaged, nil},
		{[]int64{0, 5}, []int64{8}, nil},
		{one[:2], one[1:], nil},
	} {
		x := impl.Two{A: diskOf(two, c.a, nil), B: diskOf(two, c.b, nil)}
		equalRows(t, "RightAt", impl.RightAt(x, 1), c.want)
		equalRows(t, "RightAt of the sector before", impl.RightAt(x, 0), [][]int64{{9}})
		equalRows(t, "RightAt of the sector behind", impl.RightAt(x, 2), nil)
		// The same rows are read if they wait, whatever is below them.
		w := impl.Two{A: waiting(diskOf(nil, two), impl.Write{At: 1, Row: c.a}), B: waiting(diskOf(two, two), impl.Write{At: 1, Row: c.b})}
		equalRows(t, "RightAt of waiting rows", impl.RightAt(w, 1), c.want)
		// So they are if they wait on one disk alone.
		w.A = diskOf(nil, c.a)
		equalRows(t, "RightAt of rows that wait on B", impl.RightAt(w, 1), c.want)
	}
}

func TestRightAtEverySector(t *testing.T) {
	for _, x := range goodTwos() {
		for at := range int64(len(x.A.Kept)) {
			equalRows(t, "RightAt", impl.RightAt(x, at), rightByHand(x, at))
		}
		for _, at := range noSectors(len(x.A.Kept)) {
			equalRows(t, "RightAt of no sector", impl.RightAt(x, at), nil)
		}
	}
	rows := summableRows()
	x := impl.Two{A: summedDisk(rows...), B: summedDisk(rows...)}
	for at, row := range rows {
		equalRows(t, "RightAt of a good row", impl.RightAt(x, int64(at)), [][]int64{row})
	}
}

// MendedAt makes everything persistent that waited before, and nothing if its row cannot be written.
func TestMendedAtWithWaitingWrites(t *testing.T) {
	x := fallingTwo()
	row := summedByHand([]int64{8, 9})
	equalTwos(t, "MendedAt", impl.MendedAt(x, 1, []int64{8, 9}), impl.Two{A: diskOf([]int64{11, 12}, row), B: diskOf([]int64{24}, row)})
	for _, at := range []int64{-1, 2} {
		equalTwos(t, "MendedAt no sector", impl.MendedAt(x, at, []int64{8, 9}), x)
	}
	equalTwos(t, "MendedAt with a long row", impl.MendedAt(x, 1, repeated(48, 1)), x)
	equalTwos(t, "MendedAt with no row", impl.MendedAt(x, 1, []int64{-1}), x)
	for _, full := range []impl.Two{
		{A: waiting(diskOf(nil), manyWrites(60, 1)...), B: diskOf(nil)}, {A: diskOf(nil), B: waiting(diskOf(nil), manyWrites(60, 1)...)},
	} {
		equalTwos(t, "MendedAt with too many waiting writes", impl.MendedAt(full, 0, []int64{8}), full)
	}
}

func TestEqualIn(t *testing.T) {
	for _, x := range goodTwos() {
		want := len(x.A.Wait) == 0 && len(x.B.Wait) == 0 && diskText(x.A) == diskText(x.B)
		if got := impl.EqualIn(x); got != want {
			t.Errorf("EqualIn: got %v, want %v: %s", got, want, twoText(x))
		}
	}
	for _, d := range goodDisks() {
		d = diskOf(d.Kept...)
		if !impl.EqualIn(impl.Two{A: d, B: clonedDisk(d)}) {
			t.Errorf("a disk is equal to its copy: %s", diskText(d))
		}
		for at, row := range d.Kept {
			longer, other := clonedDisk(d), clonedDisk(d)
			if longer.Kept[at] = append(longer.Kept[at], 0); len(row) < 48 {
				wantUnequal(t, impl.Two{A: d, B: longer})
				wantUnequal(t, impl.Two{A: longer, B: d})
			}
			if len(row) > 0 {
				other.Kept[at][len(row)-1] = 3 - other.Kept[at][len(row)-1]%2
				wantUnequal(t, impl.Two{A: d, B: other})
				wantUnequal(t, impl.Two{A: other, B: d})
			}
			// Equal but for a write that waits on one disk or on both, also if it changes nothing.
			waits := waiting(d, impl.Write{At: int64(at), Row: row})
			wantUnequal(t, impl.Two{A: waits, B: d})
			wantUnequal(t, impl.Two{A: d, B: waits})
			wantUnequal(t, impl.Two{A: waits, B: waits})
		}
	}
}

// wantUnequal fails the test if a valid pair of disks is equal.
func wantUnequal(t *testing.T, x impl.Two) {
	t.Helper()
	if !impl.TwoOk(x) || impl.EqualIn(x) {
		t.Errorf("not valid or equal: %s", twoText(x))
	}
}

func TestTwosThatAreNotValid(t *testing.T) {
	for _, x := range badTwos() {
		if impl.EqualIn(x) {
			t.Errorf("not valid, so not equal: %s", twoText(x))
		}
		for _, at := range []int64{-1, 0, 1, 2, 40, 41} {
			equalRows(t, "RightAt of no pair", impl.RightAt(x, at), nil)
			for _, row := range [][]int64{nil, {1}, {-1}, repeated(48, 1)} {
				wantNotBothWrote(t, x, at, row, impl.Two{})
			}
		}
		equalTwos(t, "BothSynced of no pair", impl.BothSynced(x), impl.Two{})
		for _, fates := range [][]int64{nil, {impl.FtKept}, repeated(200, impl.FtKept), repeated(200, impl.FtTorn)} {
			equalTwos(t, "BothFallen of no pair", impl.BothFallen(x, fates), impl.Two{})
		}
	}
	// A row that one disk alone has right is not found either if the other disk is not valid.
	bad := impl.Two{A: summedDisk([]int64{1}, nil), B: summedDisk([]int64{1})}
	equalRows(t, "RightAt of different disks", impl.RightAt(bad, 0), nil)
	equalRows(t, "RightAt without B", impl.RightAt(impl.Two{A: bad.A}, 0), nil)
	equalRows(t, "RightAt without A", impl.RightAt(impl.Two{B: bad.A}, 0), nil)
}

// wantRepaired fails the test if the row is not the only right one of sector 1, or if repairing
// the sector from it does not leave it on both disks and all other sectors as they are.
func wantRepaired(t *testing.T, x impl.Two, row []int64) {
	t.Helper()
	right := impl.RightAt(x, 1)
	equalRows(t, "the row that is right on one disk", right, [][]int64{row})
	if len(right) != 1 {
		return
	}
	want := clonedTwo(x)
	want.A.Kept[1], want.B.Kept[1] = summedByHand(row), summedByHand(row)
	mended := impl.MendedAt(x, 1, right[0])
	equalTwos(t, "the repaired pair", mended, want)
	equalRows(t, "the repaired row", impl.RightAt(mended, 1), [][]int64{row})
	if !impl.EqualIn(mended) {
		t.Errorf("the repaired disks differ: %s", twoText(mended))
	}
}

// Promise 4: whatever happens to a sector of one disk, the row is found on the other one and repaired from it.
func TestRowOfOneDiskIsFoundAndRepaired(t *testing.T) {
	for _, row := range summableRows() {
		x := impl.MendedAt(impl.NewTwo(3), 0, []int64{6})
		x = impl.MendedAt(x, 1, row)
		wantRepaired(t, x, row)
		for i := range int64(len(row) + 1) {
			for _, step := range []int64{1, 2, 1000, 500000000} {
				var a, b bool
				left, right := clonedTwo(x), clonedTwo(x)
				n := (x.A.Kept[1][i] + step) % impl.MaxNum
				left.A, a = impl.Rotted(x.A, 1, i, n)
				right.B, b = impl.Rotted(x.B, 1, i, n)
				if !a || !b || impl.EqualIn(left) || impl.EqualIn(right) {
					t.Fatalf("number %d of %v is not damaged", i, row)
				}
				wantRepaired(t, left, row)
				wantRepaired(t, right, row)
			}
		}
		for _, other := range [][]int64{nil, {}, {0}, {8}, repeated(48, 0), repeated(48, 1)} {
			lost := diskOf(x.A.Kept[0], other, nil)
			wantRepaired(t, impl.Two{A: lost, B: x.B}, row)
			wantRepaired(t, impl.Two{A: x.A, B: lost}, row)
		}
	}
}

// Promise 4, by a crash: a row that one disk has kept is found, whatever the other one has, and
// what was there before is found as long as one disk has it.
func TestRowKeptByOneDiskIsFoundAndRepaired(t *testing.T) {
	const lost, kept, torn = impl.FtLost, impl.FtKept, impl.FtTorn
	old, row := []int64{1, 2, 3}, []int64{5, 6}
	for _, c := range []struct {
		a, b int64
		want [][]int64
	}{
		{lost, lost, [][]int64{old}}, {kept, kept, [][]int64{row}},
		{kept, lost, [][]int64{row, old}}, {lost, kept, [][]int64{old, row}},
		{kept, torn, [][]int64{row}}, {torn, kept, [][]int64{row}},
		{lost, torn, [][]int64{old}}, {torn, lost, [][]int64{old}},
		{torn, torn, nil},
	} {
		x, _ := impl.BothWrote(impl.MendedAt(impl.NewTwo(2), 1, old), 1, row)
		equalRows(t, "before the crash", impl.RightAt(x, 1), [][]int64{row})
		x = impl.BothFallen(x, []int64{c.a, c.b})
		equalRows(t, "after the crash", impl.RightAt(x, 1), c.want)
		for _, right := range c.want {
			mended := impl.MendedAt(x, 1, right)
			equalRows(t, "repaired after the crash", impl.RightAt(mended, 1), [][]int64{right})
			if !impl.EqualIn(mended) {
				t.Errorf("the repaired disks differ: %s", twoText(mended))
			}
		}
	}
}

// A twoModel has a model of each disk.
type twoModel [2]*diskModel

// two returns the pair that the model stands for.
func (m twoModel) two() impl.Two { return impl.Two{A: m[0].disk(), B: m[1].disk()} }

// write writes a row with its checksum to both disks if it is possible on both.
func (m twoModel) write(at int64, row []int64) bool {
	if len(row) > 47 || !impl.RowOk(row) || len(m[0].order) >= 60 || len(m[1].order) >= 60 {
		return false
	}
	return m[0].write(at, summedByHand(row)) && m[1].write(at, summedByHand(row))
}

// settle ends all waiting writes; fate says what becomes of write i of a disk.
func (m twoModel) settle(fate func(disk, i int) int64) {
	for k, disk := range m {
		disk.settle(func(i int) int64 { return fate(k, i) })
	}
}

// allKept is the fate of the writes that are synced.
func allKept(int, int) int64 { return impl.FtKept }

// played makes one random step of both the pair and its model, and reports whether they agree on
// what is possible.
func (m twoModel) played(r *rand.Rand, x impl.Two, sectors int) (impl.Two, bool) {
	at, is, want := int64(r.Intn(sectors+2)-1), true, true
	row := randomRow(r, 12)
	if r.Intn(30) == 0 {
		row = repeated(46+r.Intn(4), 1)
	}
	disk, k := &x.A, r.Intn(2)
	if k == 1 {
		disk = &x.B
	}
	switch r.Intn(24) {
	case 0:
		m.settle(allKept)
		x = impl.BothSynced(x)
	case 1:
		fates := make([]int64, r.Intn(130))
		for i := range fates {
			fates[i] = r.Int63n(5) - 1
		}
		m.settle(func(disk, i int) int64 { return fateByHand(fates, 2*i+disk) })
		x = impl.BothFallen(x, fates)
	case 2:
		if m.write(at, row) {
			m.settle(allKept)
		}
		x = impl.MendedAt(x, at, row)
	case 3, 4, 5, 6:
		i, n := int64(r.Intn(14)-1), int64(r.Intn(9)-1)
		want = m[k].rot(at, i, n)
		*disk, is = impl.Rotted(*disk, at, i, n)
	case 7, 8, 9, 10, 11, 12:
		want = m[k].write(at, row)
		*disk, is = impl.Wrote(*disk, at, row)
	default:
		want = m.write(at, row)
		x, is = impl.BothWrote(x, at, row)
	}
	return x, is == want
}

// fateByHand returns element i of fates, or that the write is lost.
func fateByHand(fates []int64, i int) int64 {
	if i < len(fates) {
		return fates[i]
	}
	return impl.FtLost
}

// Long plays of random operations, each step against the model.
func TestTwoAgainstModel(t *testing.T) {
	for seed := range int64(60) {
		r := rand.New(rand.NewSource(seed))
		sectors := 1 + r.Intn(5)
		m, x := twoModel{newModel(sectors), newModel(sectors)}, impl.NewTwo(int64(sectors))
		for range 400 {
			next, agreed := m.played(r, x, sectors)
			x = next
			want := m.two()
			if !agreed || twoText(x) != twoText(want) || !impl.TwoOk(x) {
				t.Fatalf("seed %d: %v, got %s, want %s", seed, agreed, twoText(x), twoText(want))
			}
			for at := range int64(sectors) {
				equalRows(t, "RightAt of seed "+strconv.FormatInt(seed, 10), impl.RightAt(x, at), rightByHand(want, at))
			}
			if equal := len(x.A.Wait)+len(x.B.Wait) == 0 && diskText(x.A) == diskText(x.B); impl.EqualIn(x) != equal {
				t.Fatalf("seed %d: EqualIn is not %v: %s", seed, equal, twoText(x))
			}
		}
	}
}

// twoCalls are all the functions that take a pair, the calls that do nothing included; rows are
// returned as a disk.
func twoCalls() map[string]func(x impl.Two, numbers []int64) impl.Two {
	wrote := func(at int64) func(impl.Two, []int64) impl.Two {
		return func(x impl.Two, row []int64) impl.Two {
			next, _ := impl.BothWrote(x, at, row)
			return next
		}
	}
	mended := func(at int64) func(impl.Two, []int64) impl.Two {
		return func(x impl.Two, row []int64) impl.Two { return impl.MendedAt(x, at, row) }
	}
	right := func(at int64) func(impl.Two, []int64) impl.Two {
		return func(x impl.Two, _ []int64) impl.Two { return impl.Two{A: diskOf(impl.RightAt(x, at)...)} }
	}
	return map[string]func(impl.Two, []int64) impl.Two{
		"BothWrote": wrote(0), "BothWrote to no sector": wrote(-1), "BothWrote behind the last sector": wrote(40),
		"MendedAt": mended(0), "MendedAt no sector": mended(-1), "MendedAt behind the last sector": mended(40),
		"RightAt 0": right(0), "RightAt 1": right(1), "RightAt 2": right(2), "RightAt nowhere": right(-1),
		"BothSynced": func(x impl.Two, _ []int64) impl.Two { return impl.BothSynced(x) },
		"BothFallen": impl.BothFallen,
		"TwoOk":      func(x impl.Two, _ []int64) impl.Two { impl.TwoOk(x); return impl.Two{} },
		"EqualIn":    func(x impl.Two, _ []int64) impl.Two { impl.EqualIn(x); return impl.Two{} },
	}
}

// roomyTwo returns a pair all of whose slices have spare capacity that is in use elsewhere.
func roomyTwo(x impl.Two) impl.Two { return impl.Two{A: roomyDisk(x.A), B: roomyDisk(x.B)} }

// wholeText writes both disks with the spare capacity of all their slices.
func wholeText(x impl.Two) string {
	return twoText(impl.Two{A: wholeDisk(x.A), B: wholeDisk(x.B)})
}

// wipedTwo overwrites all memory of both disks.
func wipedTwo(x impl.Two) {
	wipedDisk(x.A)
	wipedDisk(x.B)
}

// wantTwoApart fails the test if two slices of a pair share memory, their spare capacity included.
func wantTwoApart(t *testing.T, what string, x impl.Two) {
	t.Helper()
	wantApart(t, what, impl.Disk{Kept: append(rowsOf(x.A), rowsOf(x.B)...)})
	before := diskText(wholeDisk(x.B))
	wipedDisk(x.A)
	if after := diskText(wholeDisk(x.B)); after != before {
		t.Errorf("%s: B shares memory with A: %s, before %s", what, after, before)
	}
}

// someOf returns one of every so many pairs, as all of them would take long.
func someOf(all []impl.Two, every int) []impl.Two {
	var some []impl.Two
	for i := 0; i < len(all); i += every {
		some = append(some, all[i])
	}
	return some
}

func TestTwosChangeNoArgument(t *testing.T) {
	for name, call := range twoCalls() {
		for _, x := range append(goodTwos(), someOf(badTwos(), 10)...) {
			for _, list := range numbersForDisks() {
				two := roomyTwo(x)
				numbers, whole := roomy(list...)
				before := wholeText(two)
				// What the result shares with an argument would be wiped there as well.
				unchanged(t, name, whole, func() { wipedTwo(call(two, numbers)) })
				if after := wholeText(two); after != before {
					t.Fatalf("%s has changed its argument or shares its memory: %s, before %s", name, after, before)
				}
			}
		}
	}
}

func TestTwoResultsKeepWhatTheyAre(t *testing.T) {
	for name, call := range twoCalls() {
		for _, x := range goodTwos() {
			for _, list := range numbersForDisks() {
				two := roomyTwo(x)
				numbers, whole := roomy(list...)
				got, want := call(two, numbers), call(clonedTwo(x), slices.Clone(list))
				wipedTwo(two)
				wiped(whole)
				equalTwos(t, name+", its arguments wiped", got, want)
			}
		}
	}
}

func TestPartsOfOneTwoShareNoMemory(t *testing.T) {
	for name, call := range twoCalls() {
		for _, x := range goodTwos() {
			for _, list := range numbersForDisks() {
				wantTwoApart(t, name, call(roomyTwo(x), list))
			}
		}
		// Both disks of an argument may be the same one; those of the result are not.
		for _, d := range append(goodDisks(), summedDisk([]int64{1}, []int64{2}, []int64{3})) {
			for _, list := range numbersForDisks() {
				disk := roomyDisk(d)
				before := diskText(wholeDisk(disk))
				wantTwoApart(t, name+" of one disk twice", call(impl.Two{A: disk, B: disk}, list))
				if after := diskText(wholeDisk(disk)); after != before {
					t.Errorf("%s has changed the disk that it was given twice: %s, before %s", name, after, before)
				}
			}
		}
	}
	for sectors := range int64(41) {
		wantTwoApart(t, "NewTwo", impl.NewTwo(sectors))
	}
}

func TestNewTwosShareNoMemory(t *testing.T) {
	one, other, empty := impl.NewTwo(40), impl.NewTwo(40), impl.Disk{Kept: make([][]int64, 40)}
	wipedTwo(one)
	equalTwos(t, "NewTwo, another one wiped", other, impl.Two{A: empty, B: empty})
	equalTwos(t, "NewTwo, an earlier one wiped", impl.NewTwo(40), other)
}

// The rows that RightAt finds are new ones, also the second one.
func TestRightRowsShareNoMemory(t *testing.T) {
	x := impl.Two{A: summedDisk([]int64{1, 2}), B: summedDisk([]int64{3, 4, 5})}
	for _, row := range impl.RightAt(x, 0) {
		wiped(row)
	}
	equalRows(t, "RightAt, an earlier result wiped", impl.RightAt(x, 0), [][]int64{{1, 2}, {3, 4, 5}})
}
