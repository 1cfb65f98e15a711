package tests

import (
	"math"
	"math/rand"
	"slices"
	"testing"

	"loop.example/g00851/impl"
)

// headOf returns a head.
func headOf(num, base, time int64, seen ...impl.Mark) impl.Head {
	return impl.Head{Num: num, Base: base, Time: time, Seen: seen}
}

// headText writes a head with all its numbers; nil and empty tables are written alike.
func headText(h impl.Head) string {
	return textOf([]int64{h.Num, h.Base, h.Time}) + " " + marksText(h.Seen)
}

// equalHeads fails the test if got and want differ; nil and empty are equivalent.
func equalHeads(t *testing.T, what string, got, want impl.Head) {
	t.Helper()
	if headText(got) != headText(want) {
		t.Errorf("%s: got %s, want %s", what, headText(got), headText(want))
	}
}

// clonedHead returns a head with memory of its own.
func clonedHead(h impl.Head) impl.Head {
	return headOf(h.Num, h.Base, h.Time, slices.Clone(h.Seen)...)
}

// headWith returns a head with one of its numbers changed: Num, Base, Time, and those of its marks.
func headWith(h impl.Head, i int, x int64) impl.Head {
	numbers := numberAt([]int64{h.Num, h.Base, h.Time, 0}, min(i, 3), x)
	h.Num, h.Base, h.Time = numbers[0], numbers[1], numbers[2]
	if i >= 3 {
		h.Seen = marksWith(h.Seen, (i-3)/3, (i-3)%3, x)
	}
	return h
}

// headOkByHand reports whether a head is valid.
func headOkByHand(h impl.Head) bool {
	if h.Base == 0 {
		return h.Num == 0 && h.Time == 0 && len(h.Seen) == 0
	}
	return isIndex(h.Base) && 0 <= h.Num && h.Num <= h.Base && isTime(h.Time) && seenOkByHand(h.Seen) && lastSeenByHand(h.Seen) == h.Base
}

// headRowByHand returns the row of a valid head; the marks are put where they belong.
func headRowByHand(h impl.Head) []int64 {
	row := []int64{h.Num, h.Base, h.Time, 0, 0, 0, 0, 0, 0, 0, 0, h.Num, h.Num}
	for _, m := range h.Seen {
		row[2*m.Client-1], row[2*m.Client] = m.Seq, m.Index
	}
	return row
}

// rowHeadByHand returns the head that a row stands for.
func rowHeadByHand(row []int64) (impl.Head, bool) {
	if len(row) != 13 || row[11] != row[0] || row[12] != row[0] {
		return impl.Head{}, false
	}
	all := marksOf(2, row[3], row[4], 3, row[5], row[6], 4, row[7], row[8], 5, row[9], row[10])
	seen := slices.DeleteFunc(all, func(m impl.Mark) bool { return m.Seq == 0 && m.Index == 0 })
	if h := headOf(row[0], row[1], row[2], seen...); headOkByHand(h) {
		return h, true
	}
	return impl.Head{}, false
}

// slotRowByHand returns the row of a valid entry.
func slotRowByHand(e impl.Entry) []int64 { return append(entryInts(e), e.Index, e.Index) }

// rowSlotByHand returns the entry that a row stands for.
func rowSlotByHand(row []int64) (impl.Entry, bool) {
	if len(row) != 11 || row[9] != row[0] || row[10] != row[0] || !entryOkByHand(row[:9]) {
		return impl.Entry{}, false
	}
	return entryOf(row[:9]...), true
}

// slotByHand returns the sector of an entry; the sectors 2 to 21 are counted off from index 0 on.
func slotByHand(index int64) int64 {
	for index > 19 {
		index -= 20
	}
	return index + 2
}

// logTo returns the entries 1 to last of one log, of which all the disks of these tests have a part.
func logTo(last int64) []impl.Entry { return manyEntries(int(last), 1) }

// headAt returns a head after entry base of that log.
func headAt(num, base int64) impl.Head {
	seen, _ := overByHand(nil, logTo(base))
	b, _ := trimmedByHand(bookOf(0, 0, logTo(base)...), base)
	return headOf(num, base, b.Time, seen...)
}

// What a sector is changed on.
const onA, onB, onBoth = 1, 2, 3

// withRaw returns the disks with just these numbers in a sector.
func withRaw(x impl.Two, disks int, at int64, raw []int64) impl.Two {
	x = clonedTwo(x)
	if disks&onA != 0 {
		x.A.Kept[at] = slices.Clone(raw)
	}
	if disks&onB != 0 {
		x.B.Kept[at] = slices.Clone(raw)
	}
	return x
}

// withRow returns the disks with that row and its checksum in a sector.
func withRow(x impl.Two, disks int, at int64, row []int64) impl.Two {
	return withRaw(x, disks, at, summedByHand(row))
}

// withHead returns the disks with a head in its sector.
func withHead(x impl.Two, disks int, h impl.Head) impl.Two {
	return withRow(x, disks, h.Num%2, headRowByHand(h))
}

// withEntries returns the disks with these entries in their sectors.
func withEntries(x impl.Two, disks int, list ...impl.Entry) impl.Two {
	for _, e := range list {
		x = withRow(x, disks, slotByHand(e.Index), slotRowByHand(e))
	}
	return x
}

// blankKept returns disks with no head; a sector has no numbers at all.
func blankKept() impl.Two {
	return impl.Two{A: impl.Disk{Kept: make([][]int64, 22)}, B: impl.Disk{Kept: make([][]int64, 22)}}
}

// stored returns disks with the head at base and the entries after it up to last, all of them synced.
func stored(num, base, last int64) impl.Two {
	return withEntries(withHead(blankKept(), onBoth, headAt(num, base)), onBoth, logTo(last)[base:]...)
}

// recoveredDisks are what a recovery of a head and of entries leaves: everything else is wiped.
func recoveredDisks(h impl.Head, list []impl.Entry) impl.Two {
	x := blankKept()
	for at := range int64(22) {
		x = withRow(x, onBoth, at, nil)
	}
	return withEntries(withHead(x, onBoth, h), onBoth, list...)
}

// headInByHand returns the latest of all the heads that are where they belong.
func headInByHand(x impl.Two) (impl.Head, bool) {
	var all []impl.Head
	for at := range int64(2) {
		for _, row := range rightByHand(x, at) {
			if h, is := rowHeadByHand(row); is && h.Num%2 == at {
				all = append(all, h)
			}
		}
	}
	if len(all) == 0 {
		return impl.Head{}, false
	}
	return slices.MaxFunc(all, func(h, other impl.Head) int { return int(h.Num - other.Num) }), true
}

// bookInByHand returns the book after a valid head; each longer book is valid as a whole, and all of
// its entries are recorded anew.
func bookInByHand(x impl.Two, h impl.Head) impl.Book {
	fits := func(b impl.Book) bool {
		_, fresh := overByHand(h.Seen, b.Entries)
		return fresh && bookOkByHand(b)
	}
	for b := bookOf(h.Base, h.Time); ; {
		before := len(b.Entries)
		for _, row := range rightByHand(x, slotByHand(lastByHand(b)+1)) {
			e, is := rowSlotByHand(row)
			if longer := bookOf(b.Base, b.Time, append(slices.Clone(b.Entries), e)...); is && fits(longer) {
				b = longer
				break
			}
		}
		if len(b.Entries) == before {
			return b
		}
	}
}

// goodHeads are valid, among them those of no, one, two and four marks, and those at the limits.
func goodHeads() []impl.Head {
	good := []impl.Head{
		{}, {Seen: []impl.Mark{}}, headOf(1, 3, 9, marksOf(3, 4, 3, 5, 1, 2)...), headOf(0, 1, 0, markOf(2, 1, 1)), headOf(1, 1, lastTime, markOf(5, 2000, 1)),
		headOf(0, 2000, 0, markOf(4, 1, 2000)), headOf(2000, 2000, lastTime, marksOf(2, 2000, 2000, 3, 2000, 1999, 4, 2000, 1998, 5, 2000, 1997)...),
		headOf(5, 40, 7, marksOf(2, 4, 10, 3, 3, 20, 4, 2, 40, 5, 1, 30)...), headOf(40, 40, 8, marksOf(2, 4, 10, 3, 3, 20, 5, 1, 40)...), headOf(39, 40, 8, marksOf(2, 4, 40, 3, 3, 20)...),
	}
	for _, base := range []int64{0, 1, 2, 3, 4, 5, 19, 20, 21, 600, 1979, 1980, 1981, 1999, 2000} {
		for _, num := range []int64{0, 1, 2, base / 2, base - 1, base} {
			if 0 <= num && num <= base {
				good = append(good, headAt(num, base))
			}
		}
	}
	return good
}

// badHeads are not valid: each number of a few valid ones is changed, and they have tables that are
// not valid or not those of their Base.
func badHeads() []impl.Head {
	var bad []impl.Head
	for _, h := range append(goodHeads()[:10], headAt(2, 7), headAt(20, 21), headAt(1999, 1999)) {
		for i := range 3 + 3*len(h.Seen) {
			for _, x := range someNumbers() {
				bad = append(bad, headWith(h, i, x))
			}
		}
		for _, s := range append(badTables(), goodTables()...) {
			bad = append(bad, headOf(h.Num, h.Base, h.Time, s...), headOf(h.Num, lastSeenByHand(s)+1, h.Time, s...))
			bad = append(bad, headOf(0, lastSeenByHand(s), -1, s...), headOf(0, lastSeenByHand(s)-1, 9, s...))
		}
	}
	return slices.DeleteFunc(bad, headOkByHand)
}

// changedEntries are valid and other entries: each number of a few valid ones is changed.
func changedEntries() []impl.Entry {
	var list []impl.Entry
	for _, numbers := range [][]int64{{1, 0, 2, 1, 1, 9, 999, 0, 0}, {2000, lastTime, 5, 2000, 3, 20, lastTime, 9, 999}, {23, 40, 4, 3, 5, 1000, 0, 0, 0}} {
		for i := range numbers {
			for _, x := range someNumbers() {
				list = append(list, entryOf(numberAt(numbers, i, x)...))
			}
		}
	}
	return append(list, impl.Entry{})
}

// isEntry reports whether an entry is valid.
func isEntry(e impl.Entry) bool { return entryOkByHand(entryInts(e)) }

// badEntries are not valid.
func badEntries() []impl.Entry {
	return slices.DeleteFunc(append(changedEntries(), unfitEntries()...), isEntry)
}

// keptDisks are accepted by KeptOk: new ones, those of a head alone and of some or Ring entries, also
// with writes that wait, of two heads, of none, with damage, and with other rows.
func keptDisks() []impl.Two {
	list := logTo(60)
	late, five := stored(1, 30, 50), stored(0, 0, 5)
	two := withHead(stored(2, 4, 9), onBoth, headAt(3, 6))
	torn := withRaw(withRaw(two, onBoth, 1, two.A.Kept[1][:7]), onA, 11, two.A.Kept[11][:6])
	rot, apart := clonedTwo(five), withEntries(withHead(late, onB, headAt(2, 31)), onB, list[51], list[39])
	rot.A.Kept[4][2], rot.B.Kept[0][0] = 77, 3
	waits := wroteByHand(wroteByHand(five, 8, slotRowByHand(list[5])), 1, headRowByHand(headAt(1, 5)))
	most := impl.Two{A: waiting(five.A, manyWrites(60, 22)...), B: waiting(five.B, manyWrites(59, 22)...)}
	other := impl.Two{A: diskOf(append(goodRows(), make([][]int64, 22)...)[:22]...), B: summedDisk(append(summableRows(), make([][]int64, 22)...)[:22]...)}
	return []impl.Two{
		blankKept(), stored(0, 0, 0), stored(0, 0, 1), five, stored(0, 0, 20), stored(7, 7, 7), stored(3, 15, 33), late, stored(2, 1990, 2000),
		two, torn, rot, apart, waits, most, {A: most.B, B: most.A}, other, {A: five.A, B: other.A}, {A: other.B, B: late.B},
	}
}

// badKept are not accepted by KeptOk: pairs that are not valid, and disks with too few or too many
// sectors; what they have is that of good ones.
func badKept() []impl.Two {
	bad := someOf(badTwos(), 8)
	for _, many := range []int64{1, 2, 3, 20, 21, 23, 24, 40} {
		bad = append(bad, impl.NewTwo(many))
	}
	for _, x := range []impl.Two{stored(0, 0, 0), stored(1, 30, 50)} {
		fewer, more := impl.Two{A: diskOf(x.A.Kept[:21]...), B: diskOf(x.B.Kept[:21]...)}, impl.Two{A: diskOf(append(x.A.Kept, nil)...), B: diskOf(append(x.B.Kept, nil)...)}
		bad = append(bad, fewer, more, impl.Two{A: x.A, B: fewer.B}, impl.Two{A: fewer.A, B: x.B}, impl.Two{A: x.A, B: more.B}, impl.Two{A: more.A, B: x.B}, impl.Two{A: fewer.A, B: more.B})
		bad = append(bad, impl.Two{A: x.A}, impl.Two{B: x.B}, withRaw(x, onA, 21, []int64{-1}), withRaw(x, onB, 0, []int64{math.MaxInt64}))
		bad = append(bad, impl.Two{A: x.A, B: waiting(x.B, manyWrites(61, 22)...)}, impl.Two{A: waiting(x.A, impl.Write{At: 22}), B: x.B})
	}
	return bad
}

func TestHeadOk(t *testing.T) {
	if impl.Sectors != 22 {
		t.Errorf("Sectors: got %d", impl.Sectors)
	}
	for _, h := range goodHeads() {
		wantIs(t, "HeadOk of "+headText(h), impl.HeadOk(h), true)
	}
	for _, h := range badHeads() {
		wantIs(t, "HeadOk of "+headText(h), impl.HeadOk(h), false)
	}
	two := marksOf(3, 4, 3, 5, 1, 2)
	for _, c := range []struct {
		h  impl.Head
		is bool
	}{
		// Num
		{headOf(1, 0, 0), false}, {headOf(-1, 0, 0), false}, {headOf(0, 3, 9, two...), true}, {headOf(2, 3, 9, two...), true}, {headOf(3, 3, 9, two...), true}, {headOf(4, 3, 9, two...), false}, {headOf(-1, 3, 9, two...), false},
		// Base
		{headOf(0, -1, 0), false}, {headOf(-1, -1, 0), false}, {headOf(0, 2001, 9, markOf(2, 1, 2001)), false}, {headOf(0, 2000, 9, markOf(2, 1, 2000)), true}, {headOf(0, 1, 9, markOf(2, 1, 1)), true},
		// Time
		{headOf(0, 0, 1), false}, {headOf(0, 0, -1), false}, {headOf(0, 0, lastTime), false}, {headOf(1, 3, 0, two...), true}, {headOf(1, 3, lastTime, two...), true}, {headOf(1, 3, lastTime+1, two...), false}, {headOf(1, 3, -1, two...), false},
		// Seen
		{headOf(0, 3, 9), false}, {headOf(0, 0, 0, markOf(2, 1, 1)), false}, {headOf(0, 2, 9, two...), false}, {headOf(0, 4, 9, two...), false}, {headOf(0, 3, 9, marksOf(5, 1, 2, 3, 4, 3)...), false}, {headOf(0, 3, 9, marksOf(3, 0, 3, 5, 1, 2)...), false},
	} {
		wantIs(t, "HeadOk of "+headText(c.h), impl.HeadOk(c.h), c.is)
	}
}

// Every combination of some numbers with tables up to Base, below it and above it.
func TestHeadOkEverywhere(t *testing.T) {
	tables := [][]impl.Mark{nil, marksOf(2, 1, 1), marksOf(5, 1, 2), marksOf(2, 1, 2, 4, 1, 1), marksOf(3, 9, 3), marksOf(4, 9, 3, 3, 1, 1), marksOf(4, 2, 2000), marksOf(2, 1, 1999, 3, 1, 2000), marksOf(4, 2, 2001), marksOf(2, 0, 2), marksOf(2, 1, 2, 3, 1, 2)}
	for _, base := range append(wildNumbers(), 0, 1, 2, 3, 4, 1999, 2000, 2001) {
		for _, num := range []int64{math.MinInt64, -1, 0, 1, 2, base - 1, base, base + 1, math.MaxInt64} {
			for _, time := range append(notTimes(), 0, 1, 9, lastTime) {
				for _, s := range tables {
					h := headOf(num, base, time, s...)
					wantIs(t, "HeadOk of "+headText(h), impl.HeadOk(h), headOkByHand(h))
				}
			}
		}
	}
}

// wantHead fails the test if a row is not that of the head wanted.
func wantHead(t *testing.T, row []int64, want impl.Head, is bool) {
	t.Helper()
	got, ok := impl.RowHead(row)
	wantIs(t, "RowHead of "+textOf(row), ok, is)
	equalHeads(t, "RowHead of "+textOf(row), got, want)
}

func TestRowsOfHeads(t *testing.T) {
	for _, c := range []struct {
		h   impl.Head
		row []int64
	}{
		{impl.Head{}, repeated(13, 0)},
		{headOf(1, 1, 0, markOf(2, 8, 1)), []int64{1, 1, 0, 8, 1, 0, 0, 0, 0, 0, 0, 1, 1}},
		{headOf(2, 5, 6, markOf(5, 8, 5)), []int64{2, 5, 6, 0, 0, 0, 0, 0, 0, 8, 5, 2, 2}},
		{headOf(1, 3, 9, marksOf(3, 4, 3, 5, 1, 2)...), []int64{1, 3, 9, 0, 0, 4, 3, 0, 0, 1, 2, 1, 1}},
		{headOf(40, 41, 42, marksOf(2, 11, 12, 3, 13, 14, 4, 15, 16, 5, 17, 41)...), []int64{40, 41, 42, 11, 12, 13, 14, 15, 16, 17, 41, 40, 40}},
	} {
		equalInts(t, "HeadRow of "+headText(c.h), impl.HeadRow(c.h), c.row)
		wantHead(t, c.row, c.h, true)
	}
	for _, h := range goodHeads() {
		row := impl.HeadRow(h)
		equalInts(t, "HeadRow of "+headText(h), row, headRowByHand(h))
		wantHead(t, row, h, true)
		for _, many := range []int{0, 1, 2, 3, 11, 12} {
			wantHead(t, row[:many], impl.Head{}, false)
		}
		for _, more := range [][]int64{{0}, {h.Num}, {h.Num, h.Num}, repeated(35, h.Num), repeated(100, 0)} {
			wantHead(t, append(slices.Clone(row), more...), impl.Head{}, false)
			wantHead(t, append(slices.Clone(more), row...), impl.Head{}, false)
		}
	}
	for _, h := range badHeads() {
		equalInts(t, "HeadRow of "+headText(h), impl.HeadRow(h), nil)
	}
	wantHead(t, nil, impl.Head{}, false)
	wantHead(t, []int64{}, impl.Head{}, false)
}

// Each number of a row by itself: what is left is another head or none.
func TestRowsOfHeadsWithChangedNumbers(t *testing.T) {
	for _, h := range append(goodHeads()[:10], headAt(4, 9), headAt(3, 2000)) {
		row := headRowByHand(h)
		for i, x := range row {
			for _, y := range append(someNumbers(), x-1, x+1, x-2, x+2, -x, row[1], row[(i+1)%13]) {
				changed := numberAt(row, i, y)
				want, is := rowHeadByHand(changed)
				wantHead(t, changed, want, is)
				if i >= 11 || i == 0 {
					wantIs(t, "a changed copy of Num is still a head", is, x == y)
				}
			}
		}
	}
	// A mark of which only one number is 0 is neither missing nor a mark.
	for _, row := range [][]int64{
		{1, 3, 9, 0, 1, 4, 3, 0, 0, 1, 2, 1, 1}, {1, 3, 9, 1, 0, 4, 3, 0, 0, 1, 2, 1, 1}, {1, 3, 9, 0, 0, 0, 3, 0, 0, 1, 2, 1, 1}, {1, 3, 9, 0, 0, 4, 3, 0, 0, 0, 2, 1, 1}, {1, 3, 9, 0, 0, 4, 3, 0, 0, 1, 0, 1, 1}, {1, 3, 9, 0, 0, 4, 3, 0, 1, 1, 2, 1, 1}, {1, 3, 9, 0, 0, 4, 3, 7, 0, 1, 2, 1, 1},
		{0, 0, 0, 0, 0, 0, 0, 0, 0, 1, 0, 0, 0}, {0, 0, 0, 1, 0, 0, 0, 0, 0, 0, 0, 0, 0},
	} {
		wantHead(t, row, impl.Head{}, false)
	}
}

// Random rows of small numbers: each is the row of the head that it stands for, or stands for none.
func TestRandomRowsOfHeads(t *testing.T) {
	r := rand.New(rand.NewSource(10))
	for range 20000 {
		row := make([]int64, 13)
		for i := range row {
			row[i] = r.Int63n(4)
		}
		if r.Intn(4) > 0 {
			row[1] = max(row[4], row[6], row[8], row[10])
			row[11], row[12] = row[0], row[0]
		}
		want, is := rowHeadByHand(row)
		wantHead(t, row, want, is)
		if is {
			equalInts(t, "HeadRow of "+headText(want), impl.HeadRow(want), row)
		}
	}
}

// wantSlot fails the test if a row is not that of the entry wanted.
func wantSlot(t *testing.T, row []int64, want impl.Entry, is bool) {
	t.Helper()
	got, ok := impl.RowSlot(row)
	wantIs(t, "RowSlot of "+textOf(row), ok, is)
	equalInts(t, "RowSlot of "+textOf(row), entryInts(got), entryInts(want))
}

func TestRowsOfSlots(t *testing.T) {
	e := entryOf(12, 40, 4, 3, 3, 3, 40, 9, 999)
	equalInts(t, "SlotRow", impl.SlotRow(e), []int64{12, 40, 4, 3, 3, 3, 40, 9, 999, 12, 12})
	wantSlot(t, []int64{12, 40, 4, 3, 3, 3, 40, 9, 999, 12, 12}, e, true)
	for _, numbers := range goodEntries() {
		e, row := entryOf(numbers...), impl.SlotRow(entryOf(numbers...))
		equalInts(t, "SlotRow of "+textOf(numbers), row, slotRowByHand(e))
		wantSlot(t, row, e, true)
		for _, many := range []int{0, 1, 2, 9, 10} {
			wantSlot(t, row[:many], impl.Entry{}, false)
		}
		for _, more := range [][]int64{{0}, {e.Index}, {e.Index, e.Index}, repeated(37, e.Index), repeated(100, 0)} {
			wantSlot(t, append(slices.Clone(row), more...), impl.Entry{}, false)
			wantSlot(t, append(slices.Clone(more), row...), impl.Entry{}, false)
		}
		for _, copies := range [][]int64{{e.Index}, {0, 0}, {e.Index, 0}, {0, e.Index}, {e.Index + 1, e.Index + 1}, {e.Index - 20, e.Index - 20}, {e.Index + 1, e.Index}, {e.Index, e.Index + 20}} {
			wantSlot(t, append(slices.Clone(numbers), copies...), impl.Entry{}, false)
		}
	}
	for _, e := range badEntries() {
		equalInts(t, "SlotRow of "+textOf(entryInts(e)), impl.SlotRow(e), nil)
		wantSlot(t, slotRowByHand(e), impl.Entry{}, false)
	}
	wantSlot(t, nil, impl.Entry{}, false)
	wantSlot(t, repeated(11, 0), impl.Entry{}, false)
}

// Each number of a row by itself, and several of them: what is left is another entry or none.
func TestRowsOfSlotsWithChangedNumbers(t *testing.T) {
	for n, numbers := range goodEntries() {
		if n%5 != 0 {
			continue
		}
		row := slotRowByHand(entryOf(numbers...))
		for i, x := range row {
			for _, y := range append(someNumbers(), x-1, x+1, x-20, x+20, -x) {
				changed := numberAt(row, i, y)
				want, is := rowSlotByHand(changed)
				wantSlot(t, changed, want, is)
				if i >= 9 || i == 0 {
					wantIs(t, "a changed copy of Index is still an entry", is, x == y)
				}
			}
			other := numberAt(numberAt(row, 9, x), 10, x)
			want, is := rowSlotByHand(other)
			wantSlot(t, other, want, is)
		}
	}
}

func TestSlotOf(t *testing.T) {
	for _, c := range [][2]int64{{-1, -1}, {0, -1}, {1, 3}, {2, 4}, {16, 18}, {17, 19}, {18, 20}, {19, 21}, {20, 2}, {21, 3}, {39, 21}, {40, 2}, {1999, 21}, {2000, 2}, {2001, -1}, {2020, -1}} {
		if got := impl.SlotOf(c[0]); got != c[1] {
			t.Errorf("SlotOf(%d): got %d, want %d", c[0], got, c[1])
		}
	}
	for index := int64(1); index <= 2000; index++ {
		if got, want := impl.SlotOf(index), slotByHand(index); got != want {
			t.Errorf("SlotOf(%d): got %d, want %d", index, got, want)
		}
	}
	for _, index := range someNumbers() {
		if got := impl.SlotOf(index); !isIndex(index) && got != -1 {
			t.Errorf("SlotOf(%d): got %d, want -1", index, got)
		}
	}
}

func TestKeptOkAndNewKept(t *testing.T) {
	for _, x := range keptDisks() {
		wantIs(t, "KeptOk of "+twoText(x), impl.KeptOk(x), true)
	}
	for _, x := range badKept() {
		wantIs(t, "KeptOk of "+twoText(x), impl.KeptOk(x), false)
	}
	for a := range int64(42) {
		for b := range int64(42) {
			wantIs(t, "KeptOk of two numbers of sectors", impl.KeptOk(impl.Two{A: impl.NewDisk(a), B: impl.NewDisk(b)}), a == 22 && b == 22)
		}
	}
	x := impl.NewKept()
	equalTwos(t, "NewKept", x, withHead(blankKept(), onBoth, impl.Head{}))
	equalInts(t, "the row of the zero Head", x.B.Kept[0][:13], repeated(13, 0))
	wantIs(t, "EqualIn of NewKept", impl.EqualIn(x), true)
	h, is := impl.HeadIn(x)
	wantIs(t, "HeadIn of NewKept", is, true)
	equalHeads(t, "HeadIn of NewKept", h, impl.Head{})
	equalBooks(t, "BookIn of NewKept", impl.BookIn(x, h), impl.Book{})
}

// wantKeptEntry fails the test if an entry is not written as wanted.
func wantKeptEntry(t *testing.T, x impl.Two, e impl.Entry, want impl.Two, is bool) {
	t.Helper()
	got, ok := impl.KeptEntry(x, e)
	wantIs(t, "KeptEntry of "+textOf(entryInts(e)), ok, is)
	equalTwos(t, "KeptEntry of "+textOf(entryInts(e)), got, want)
}

// wantKeptHead fails the test if a head is not written as wanted.
func wantKeptHead(t *testing.T, x impl.Two, h impl.Head, want impl.Two, is bool) {
	t.Helper()
	got, ok := impl.KeptHead(x, h)
	wantIs(t, "KeptHead of "+headText(h), ok, is)
	equalTwos(t, "KeptHead of "+headText(h), got, want)
}

func TestKeptEntryAndKeptHead(t *testing.T) {
	x, _ := impl.KeptEntry(impl.NewKept(), asked(4, 1, 3))
	if len(x.A.Wait) != 1 || x.A.Wait[0].At != 5 || x.B.Wait[0].At != 5 {
		t.Errorf("entry 3 does not wait at sector 5: %s", twoText(x))
	}
	x, _ = impl.KeptHead(impl.NewKept(), headOf(1, 3, 9, markOf(4, 1, 3)))
	if len(x.B.Wait) != 1 || x.A.Wait[0].At != 1 || x.B.Wait[0].At != 1 {
		t.Errorf("head 1 does not wait at sector 1: %s", twoText(x))
	}
	for _, x := range keptDisks() {
		full := max(len(x.A.Wait), len(x.B.Wait)) == 60
		for _, e := range logTo(2000) {
			if e.Index > 45 && e.Index < 1990 {
				continue
			}
			want := x
			if !full {
				want = wroteByHand(x, slotByHand(e.Index), slotRowByHand(e))
			}
			wantKeptEntry(t, x, e, want, !full)
		}
		for _, h := range goodHeads() {
			want := x
			if !full {
				want = wroteByHand(x, h.Num%2, headRowByHand(h))
			}
			wantKeptHead(t, x, h, want, !full)
		}
	}
}

// What is not valid is not written, also where an empty row could be.
func TestKeptNothing(t *testing.T) {
	entries, heads, empty := badEntries(), badHeads(), impl.NewKept()
	for i, x := range keptDisks() {
		for n := i; n < len(entries); n += 9 {
			wantKeptEntry(t, x, entries[n], x, false)
		}
		for n := i; n < len(heads); n += 90 {
			wantKeptHead(t, x, heads[n], x, false)
		}
	}
	for _, e := range entries {
		wantKeptEntry(t, empty, e, empty, false)
	}
	for n := 0; n < len(heads); n += 9 {
		wantKeptHead(t, empty, heads[n], empty, false)
	}
}

// The writes that wait on one disk alone count as well.
func TestKeptUntilTooManyWait(t *testing.T) {
	x, list, h := impl.NewKept(), logTo(60), headAt(1, 5)
	for _, e := range list {
		want := wroteByHand(x, slotByHand(e.Index), slotRowByHand(e))
		wantKeptEntry(t, x, e, want, true)
		x = want
	}
	wantKeptEntry(t, x, list[3], x, false)
	wantKeptHead(t, x, h, x, false)
	for _, full := range []impl.Two{{A: x.A, B: impl.NewKept().B}, {A: impl.NewKept().A, B: x.B}} {
		wantKeptEntry(t, full, list[3], full, false)
		wantKeptHead(t, full, h, full, false)
		wantKeptEntry(t, full, impl.Entry{}, full, false)
	}
	x = bothSyncedByHand(x)
	wantKeptEntry(t, x, list[3], wroteByHand(x, 6, slotRowByHand(list[3])), true)
	wantKeptHead(t, x, h, wroteByHand(x, 1, headRowByHand(h)), true)
}

// wantHeadIn fails the test if the disks do not have the head wanted.
func wantHeadIn(t *testing.T, what string, x impl.Two, want impl.Head, is bool) {
	t.Helper()
	got, ok := impl.HeadIn(x)
	wantIs(t, "HeadIn of "+what, ok, is)
	equalHeads(t, "HeadIn of "+what, got, want)
}

func TestHeadIn(t *testing.T) {
	none, zero, one, two, three := blankKept(), impl.Head{}, headAt(1, 5), headAt(2, 8), headAt(3, 9)
	wantHeadIn(t, "no head", none, zero, false)
	wantHeadIn(t, "no head but entries", withEntries(none, onBoth, logTo(20)...), zero, false)
	wantHeadIn(t, "the zero head", withHead(none, onBoth, zero), zero, true)
	wantHeadIn(t, "one head", withHead(none, onBoth, one), one, true)
	// heads in both sectors, also where the later one forgets less of the log
	wantHeadIn(t, "0 and 1", withHead(withHead(none, onBoth, zero), onBoth, one), one, true)
	wantHeadIn(t, "1 and 2", withHead(withHead(none, onBoth, one), onBoth, two), two, true)
	wantHeadIn(t, "2 and 3", withHead(withHead(none, onBoth, two), onBoth, three), three, true)
	wantHeadIn(t, "2 at 8 and 3 at 4", withHead(withHead(none, onBoth, two), onBoth, headAt(3, 4)), headAt(3, 4), true)
	// on one disk alone
	for _, disk := range []int{onA, onB} {
		wantHeadIn(t, "1 on one disk", withHead(none, disk, one), one, true)
		wantHeadIn(t, "2 on one disk over 0", withHead(withHead(none, onBoth, zero), disk, two), two, true)
		wantHeadIn(t, "1 on one disk beside 0", withHead(withHead(none, onBoth, zero), disk, one), one, true)
		wantHeadIn(t, "2 on one disk, 3 on the other", withHead(withHead(none, disk, two), 3-disk, three), three, true)
		wantHeadIn(t, "1 on one disk, 3 on the other", withHead(withHead(none, disk, one), 3-disk, three), three, true)
	}
	// a sector of the other parity
	wantHeadIn(t, "1 in sector 0", withRow(none, onBoth, 0, headRowByHand(one)), zero, false)
	wantHeadIn(t, "0 in sector 1", withRow(none, onBoth, 1, headRowByHand(zero)), zero, false)
	wantHeadIn(t, "0 and 3, both in sector 0", withRow(withHead(none, onB, zero), onA, 0, headRowByHand(three)), zero, true)
	wantHeadIn(t, "1 and 2, both in sector 1", withRow(withHead(none, onA, one), onB, 1, headRowByHand(two)), one, true)
	wantHeadIn(t, "2 in sector 2", withRow(none, onBoth, 2, headRowByHand(two)), zero, false)
	// two heads with the same Num: A comes first
	other := headAt(1, 6)
	wantHeadIn(t, "1 and another 1", withHead(withHead(none, onA, one), onB, other), one, true)
	wantHeadIn(t, "another 1 and 1", withHead(withHead(none, onA, other), onB, one), other, true)
	wantHeadIn(t, "0, 1 and another 1", withHead(withHead(withHead(none, onBoth, zero), onA, other), onB, one), other, true)
	// rows that are no heads
	for _, row := range [][]int64{nil, {1}, slotRowByHand(logTo(1)[0]), headRowByHand(one)[:12], numberAt(headRowByHand(three), 11, 1), numberAt(headRowByHand(three), 1, 2)} {
		wantHeadIn(t, "2 and no head", withRow(withHead(none, onBoth, two), onBoth, 1, row), two, true)
	}
	wantHeadIn(t, "a head without its checksum", withRaw(withHead(none, onBoth, two), onBoth, 1, headRowByHand(three)), two, true)
}

// A later head of which a crash leaves a part on one disk or on both.
func TestHeadInOfTornHeads(t *testing.T) {
	const lost, kept, torn = impl.FtLost, impl.FtKept, impl.FtTorn
	for num := int64(1); num <= 6; num++ {
		x := withHead(blankKept(), onBoth, headAt(num-1, 4+num))
		if num > 1 {
			x = withHead(x, onBoth, headAt(num-2, 3+num))
		}
		later, before := headAt(num, 6+num), headAt(num-1, 4+num)
		x, _ = impl.KeptHead(x, later)
		wantHeadIn(t, "a head that waits", x, later, true)
		for _, c := range []struct {
			a, b int64
			want impl.Head
		}{
			{torn, torn, before}, {torn, lost, before}, {lost, torn, before}, {lost, lost, before}, {torn, kept, later}, {kept, torn, later}, {lost, kept, later}, {kept, lost, later}, {kept, kept, later},
		} {
			wantHeadIn(t, "a later head", impl.BothFallen(x, []int64{c.a, c.b}), c.want, true)
		}
	}
	x, _ := impl.KeptHead(blankKept(), headAt(1, 5))
	wantHeadIn(t, "no head but a torn one", impl.BothFallen(x, []int64{torn, torn}), impl.Head{}, false)
}

// Every choice of some rows in the two sectors of both disks.
func TestHeadInEverywhere(t *testing.T) {
	rows := [][]int64{nil, summedByHand(nil), numberAt(summedByHand(headRowByHand(headAt(9, 9))), 2, 99)}
	for _, h := range []impl.Head{{}, headAt(1, 5), headAt(1, 6), headAt(2, 5), headAt(2, 9), headAt(3, 3)} {
		rows = append(rows, summedByHand(headRowByHand(h)))
	}
	for n := range len(rows) * len(rows) * len(rows) * len(rows) {
		x := blankKept()
		for at := range 2 {
			x.A.Kept[at], n = rows[n%len(rows)], n/len(rows)
			x.B.Kept[at], n = rows[n%len(rows)], n/len(rows)
		}
		want, is := headInByHand(x)
		wantHeadIn(t, twoText(x), x, want, is)
	}
	for _, x := range keptDisks() {
		want, is := headInByHand(x)
		wantHeadIn(t, twoText(x), x, want, is)
	}
}

// wantBookIn fails the test if the disks do not have the book wanted, which has the entries of a list.
func wantBookIn(t *testing.T, what string, x impl.Two, h impl.Head, list ...impl.Entry) {
	t.Helper()
	equalBooks(t, "BookIn of "+what, impl.BookIn(x, h), bookOf(h.Base, h.Time, list...))
}

func TestBookIn(t *testing.T) {
	list, h, zero := logTo(60), headAt(1, 2), impl.Head{}
	x := withHead(blankKept(), onBoth, h)
	wantBookIn(t, "no entries", x, h)
	wantBookIn(t, "entry 3", withEntries(x, onBoth, list[2]), h, list[2])
	wantBookIn(t, "entries 3 to 7", withEntries(x, onBoth, list[2:7]...), h, list[2:7]...)
	wantBookIn(t, "entries 3 to 22", withEntries(x, onBoth, list[2:22]...), h, list[2:22]...)
	// gaps, and entries that the head has forgotten
	wantBookIn(t, "entry 4 without 3", withEntries(x, onBoth, list[3]), h)
	wantBookIn(t, "entries 3, 5 and 6", withEntries(x, onBoth, list[2], list[4], list[5]), h, list[2])
	wantBookIn(t, "entries 1 to 4", withEntries(x, onBoth, list[:4]...), h, list[2:4]...)
	wantBookIn(t, "entries 1 to 4 without a head", withEntries(blankKept(), onBoth, list[:4]...), zero, list[:4]...)
	wantBookIn(t, "entries 3 and 23", withEntries(x, onBoth, list[2], list[22]), h)
	wantBookIn(t, "entries 3, 4 and 25", withEntries(x, onBoth, list[2], list[3], list[24]), h, list[2:4]...)
	// an entry in a sector that is not its own
	wantBookIn(t, "entry 3 in another sector", withRow(x, onBoth, 6, slotRowByHand(list[2])), h)
	wantBookIn(t, "entry 4 in the sector of 3", withRow(x, onBoth, 5, slotRowByHand(list[3])), h)
	// on one disk alone, and the others on the other one
	for _, disk := range []int{onA, onB} {
		wantBookIn(t, "entry 3 on one disk", withEntries(x, disk, list[2]), h, list[2])
		wantBookIn(t, "entries 3 and 5 on one disk, 4 on the other", withEntries(withEntries(x, disk, list[2], list[4]), 3-disk, list[3]), h, list[2:5]...)
	}
	// as many as there may be, one more, and the last ones of all
	full := withEntries(x, onA, list[2:22]...)
	wantBookIn(t, "entries 3 to 22 and 23 on the other disk", withEntries(full, onB, list[22]), h, list[2:22]...)
	wantBookIn(t, "entries 3 to 22 and 23 to 42 on the other disk", withEntries(full, onB, list[22:42]...), h, list[2:22]...)
	end := logTo(2000)
	wantBookIn(t, "the last ones", withEntries(x, onBoth, end[1980:]...), headAt(7, 1980), end[1980:]...)
	wantBookIn(t, "the last ones", withEntries(x, onBoth, end[1980:]...), headAt(7, 1995), end[1995:]...)
	wantBookIn(t, "none after the last one", withEntries(x, onBoth, list[20]), headAt(7, 2000))
	// writes that wait are read
	waits, _ := impl.KeptEntry(withEntries(x, onBoth, list[2]), list[3])
	wantBookIn(t, "entry 4 waiting", waits, h, list[2:4]...)
	waits, _ = impl.KeptEntry(withEntries(x, onBoth, list[2:4]...), list[22])
	wantBookIn(t, "entry 23 waiting over 3", waits, h)
	// the head that counts is the one given
	wantBookIn(t, "another head", withEntries(x, onBoth, list[2:9]...), headAt(0, 5), list[5:9]...)
}

// Entries that cannot follow, of which one stands on A and another one perhaps on B.
func TestBookInOfRowsThatDoNotFit(t *testing.T) {
	h := headOf(1, 2, 30, marksOf(4, 5, 2, 5, 3, 1)...)
	x, right := withHead(blankKept(), onBoth, h), entryOf(3, 30, 4, 6, 1, 1, 1, 0, 0)
	next, other := entryOf(4, 31, 5, 4, 1, 2, 2, 0, 0), entryOf(3, 31, 2, 1, 1, 8, 8, 0, 0)
	for _, c := range []struct {
		what string
		e    impl.Entry
	}{
		{"an early entry", entryOf(3, 29, 4, 6, 1, 1, 1, 0, 0)}, {"an entry that is recorded", entryOf(3, 30, 4, 5, 1, 1, 1, 0, 0)}, {"an entry of a lower Seq", entryOf(3, 30, 5, 2, 1, 1, 1, 0, 0)},
		{"entry 23", entryOf(23, 30, 4, 6, 1, 1, 1, 0, 0)}, {"entry 1", entryOf(1, 30, 4, 6, 1, 1, 1, 0, 0)}, {"entry 4", next},
	} {
		bad := slotRowByHand(c.e)
		wantBookIn(t, c.what+" on both", withEntries(withRow(x, onBoth, 5, bad), onBoth, next), h)
		wantBookIn(t, c.what+" on A", withEntries(withRow(x, onA, 5, bad), onBoth, next), h)
		wantBookIn(t, c.what+" on A and the right one on B", withEntries(withRow(withEntries(x, onB, right), onA, 5, bad), onBoth, next), h, right, next)
		wantBookIn(t, c.what+" on B and the right one on A", withEntries(withRow(withEntries(x, onA, right), onB, 5, bad), onBoth, next), h, right, next)
	}
	// Of two that fit, that of A is taken.
	wantBookIn(t, "two right ones", withEntries(withEntries(withEntries(x, onA, right), onB, other), onBoth, next), h, right, next)
	wantBookIn(t, "two right ones", withEntries(withEntries(withEntries(x, onA, other), onB, right), onBoth, next), h, other, next)
	// What fits after one of them need not fit after the other: the entry before is early, or has the Seq.
	late, same := entryOf(3, 32, 4, 6, 1, 1, 1, 0, 0), entryOf(3, 30, 5, 4, 1, 1, 1, 0, 0)
	for _, first := range []impl.Entry{late, same} {
		wantBookIn(t, "an entry before which the next one does not fit", withEntries(x, onBoth, first, next), h, first)
		wantBookIn(t, "such an entry on A", withEntries(withEntries(withEntries(x, onA, first), onB, right), onBoth, next), h, first)
		wantBookIn(t, "such an entry on B", withEntries(withEntries(withEntries(x, onA, right), onB, first), onBoth, next), h, right, next)
	}
	// A row that is no entry.
	for _, row := range [][]int64{nil, entryInts(right), slotRowByHand(right)[:10], numberAt(slotRowByHand(right), 10, 23), numberAt(slotRowByHand(right), 9, 4), headRowByHand(h)} {
		wantBookIn(t, "a row that is no entry", withRow(x, onBoth, 5, row), h)
		wantBookIn(t, "a row that is no entry on A", withRow(withEntries(x, onB, right), onA, 5, row), h, right)
	}
	wantBookIn(t, "an entry without its checksum", withRaw(x, onBoth, 5, slotRowByHand(right)), h)
}

// Every choice of some rows in the sectors of the next two indices of both disks.
func TestBookInEverywhere(t *testing.T) {
	h := headOf(1, 2, 30, marksOf(4, 5, 2, 5, 3, 1)...)
	var rows [][]int64
	for _, e := range []impl.Entry{
		entryOf(3, 30, 4, 6, 1, 1, 1, 0, 0), entryOf(3, 31, 5, 4, 1, 2, 2, 0, 0), entryOf(3, 29, 5, 4, 1, 2, 2, 0, 0), entryOf(3, 31, 4, 5, 1, 2, 2, 0, 0),
		entryOf(4, 30, 4, 6, 1, 1, 1, 0, 0), entryOf(4, 31, 4, 7, 1, 2, 2, 0, 0), entryOf(4, 32, 5, 4, 1, 3, 3, 0, 0),
	} {
		rows = append(rows, summedByHand(slotRowByHand(e)))
	}
	rows = append(rows, nil, rows[0][:6])
	for n := range len(rows) * len(rows) * len(rows) * len(rows) {
		x := blankKept()
		for at := 5; at <= 6; at++ {
			x.A.Kept[at], n = rows[n%len(rows)], n/len(rows)
			x.B.Kept[at], n = rows[n%len(rows)], n/len(rows)
		}
		equalBooks(t, "BookIn of "+twoText(x), impl.BookIn(x, h), bookInByHand(x, h))
	}
	for _, x := range keptDisks() {
		for _, h := range goodHeads() {
			equalBooks(t, "BookIn after "+headText(h), impl.BookIn(x, h), bookInByHand(x, h))
		}
	}
}

// wantRecovered fails the test if a recovery does not find this head and these entries, does not
// leave them alone on both disks, or does not find them again, also after another crash.
func wantRecovered(t *testing.T, what string, x impl.Two, h impl.Head, list ...impl.Entry) {
	t.Helper()
	want := recoveredDisks(h, list)
	for _, again := range []string{"", " again", " a third time"} {
		y, head, book, is := impl.Recovered(x)
		wantIs(t, "Recovered"+again+": "+what, is, true)
		equalTwos(t, "the disks recovered"+again+": "+what, y, want)
		equalHeads(t, "the head recovered"+again+": "+what, head, h)
		equalBooks(t, "the book recovered"+again+": "+what, book, bookOf(h.Base, h.Time, list...))
		wantIs(t, "EqualIn"+again+": "+what, impl.EqualIn(y), true)
		x = impl.BothFallen(y, repeated(44, impl.FtTorn))
	}
}

// wantNotRecovered fails the test if anything is recovered.
func wantNotRecovered(t *testing.T, what string, x impl.Two) {
	t.Helper()
	y, head, book, is := impl.Recovered(x)
	wantIs(t, "Recovered: "+what, is, false)
	equalTwos(t, "the disks where nothing is recovered: "+what, y, impl.Two{})
	equalHeads(t, "the head where nothing is recovered: "+what, head, impl.Head{})
	equalBooks(t, "the book where nothing is recovered: "+what, book, impl.Book{})
}

// keptAll returns the disks with writes of these entries that wait.
func keptAll(t *testing.T, x impl.Two, list ...impl.Entry) impl.Two {
	t.Helper()
	for _, e := range list {
		next, ok := impl.KeptEntry(x, e)
		wantIs(t, "KeptEntry of "+textOf(entryInts(e)), ok, true)
		x = next
	}
	return x
}

func TestRecovered(t *testing.T) {
	list, zero, one, two := logTo(60), impl.Head{}, headAt(1, 4), headAt(2, 7)
	wantRecovered(t, "new disks", impl.NewKept(), zero)
	wantRecovered(t, "one head alone", stored(1, 4, 4), one)
	for _, last := range []int64{1, 2, 5, 20} {
		wantRecovered(t, "entries from the first on", stored(0, 0, last), zero, list[:last]...)
	}
	wantRecovered(t, "entries after a head", stored(1, 4, 24), one, list[4:24]...)
	wantRecovered(t, "the last entries", stored(9, 1990, 2000), headAt(9, 1990), logTo(2000)[1990:]...)
	// entries before those of the head, after a gap, and of an earlier round
	wantRecovered(t, "obsolete entries before", withHead(stored(0, 0, 9), onBoth, one), one, list[4:9]...)
	wantRecovered(t, "obsolete entries behind", withEntries(stored(1, 4, 6), onBoth, list[7:12]...), one, list[4:6]...)
	wantRecovered(t, "obsolete entries before and behind", withEntries(withHead(stored(0, 0, 6), onBoth, one), onBoth, list[7:12]...), one, list[4:6]...)
	wantRecovered(t, "entries of an earlier round", withHead(stored(0, 0, 20), onBoth, headAt(1, 20)), headAt(1, 20))
	wantRecovered(t, "a round in the middle of which the head is", withEntries(withHead(stored(0, 0, 20), onBoth, headAt(1, 15)), onBoth, list[20:23]...), headAt(1, 15), list[15:23]...)
	wantRecovered(t, "obsolete entries on one disk", withEntries(stored(1, 4, 6), onA, list[7:12]...), one, list[4:6]...)
	// other heads
	wantRecovered(t, "an earlier head", withHead(stored(1, 4, 9), onBoth, two), two, list[7:9]...)
	wantRecovered(t, "an earlier head in the same sector", withHead(withHead(stored(0, 0, 9), onA, two), onBoth, one), two, list[7:9]...)
	wantRecovered(t, "a head in a sector of other parity", withRow(stored(1, 4, 9), onBoth, 0, headRowByHand(headAt(3, 7))), one, list[4:9]...)
	// rows that nobody has written, and none at all
	noise := stored(1, 4, 9)
	for at := range int64(22) {
		if len(noise.A.Kept[at]) == 0 {
			noise = withRaw(noise, onBoth, at, repeated(int(at)*2, 7))
		}
	}
	wantRecovered(t, "noise in the other sectors", noise, one, list[4:9]...)
	wantNotRecovered(t, "no head", blankKept())
	wantNotRecovered(t, "no head but entries", withEntries(blankKept(), onBoth, list[:20]...))
	wantNotRecovered(t, "a head in the wrong sector", withRow(withEntries(blankKept(), onBoth, list[:3]...), onBoth, 1, headRowByHand(zero)))
}

// Writes that wait are synced first, as many as there may be.
func TestRecoveredWithWaitingWrites(t *testing.T) {
	list, one := logTo(60), headAt(1, 4)
	x := keptAll(t, stored(0, 0, 2), list[2:9]...)
	wantRecovered(t, "entries that wait", x, impl.Head{}, list[:9]...)
	x, _ = impl.KeptHead(x, one)
	wantRecovered(t, "a head that waits behind them", x, one, list[4:9]...)
	wantRecovered(t, "entries that wait on one disk", impl.Two{A: x.A, B: stored(0, 0, 2).B}, one, list[4:9]...)
	x = impl.NewKept()
	for i := range int64(60) {
		x = wroteByHand(x, slotByHand(i+1), slotRowByHand(list[i]))
	}
	wantRecovered(t, "sixty entries that wait", x, impl.Head{})
	wantRecovered(t, "sixty entries that wait behind a later head", withHead(x, onBoth, headAt(1, 41)), headAt(1, 41), list[41:60]...)
	full := impl.Two{A: x.A, B: stored(0, 0, 3).B}
	wantRecovered(t, "sixty entries that wait on A", full, impl.Head{}, list[:3]...)
}

// What a crash leaves of unsynced entries and of an unsynced head.
func TestRecoveredAfterACrash(t *testing.T) {
	const lost, kept, torn = impl.FtLost, impl.FtKept, impl.FtTorn
	list, one, two := logTo(60), headAt(1, 4), headAt(2, 7)
	x := keptAll(t, stored(1, 4, 9), list[9:11]...)
	for _, c := range []struct {
		fates []int64
		last  int64
	}{
		{[]int64{kept, lost, torn, torn}, 10}, {[]int64{lost, kept, torn, torn}, 10}, {[]int64{torn, kept, torn, lost}, 10}, {[]int64{kept, kept, lost, lost}, 10},
		{[]int64{torn, torn, kept, kept}, 9}, {[]int64{lost, torn, kept, kept}, 9}, {[]int64{lost, lost, lost, lost}, 9}, {nil, 9}, {repeated(4, torn), 9},
		{[]int64{kept, lost, lost, kept}, 11}, {[]int64{torn, kept, kept, torn}, 11}, {repeated(4, kept), 11},
	} {
		fallen := impl.BothFallen(x, c.fates)
		wantRecovered(t, "unsynced entries with "+textOf(c.fates), fallen, one, list[4:c.last]...)
		// What is lost stays lost when another entry takes the place of the first one.
		y, _, _, _ := impl.Recovered(fallen)
		fresh := entryOf(c.last+1, 50, 3, 900, 2, 1, 0, 0, 0)
		y = bothSyncedByHand(keptAll(t, y, fresh))
		wantRecovered(t, "another entry after "+textOf(c.fates), y, one, append(slices.Clone(list[4:c.last]), fresh)...)
	}
	x, _ = impl.KeptHead(stored(1, 4, 9), two)
	for _, c := range []struct {
		a, b int64
		h    impl.Head
	}{{torn, torn, one}, {torn, lost, one}, {lost, torn, one}, {lost, lost, one}, {torn, kept, two}, {kept, torn, two}, {lost, kept, two}, {kept, lost, two}} {
		wantRecovered(t, "an unsynced head", impl.BothFallen(x, []int64{c.a, c.b}), c.h, list[c.h.Base:9]...)
	}
	// The torn head is over one with the Num 0 and over entries that wait.
	x = withHead(x, onBoth, impl.Head{})
	wantRecovered(t, "a torn head over an earlier one", impl.BothFallen(x, []int64{torn, torn}), one, list[4:9]...)
}

// Each number of each sector, damaged on one disk.
func TestRecoveredWithDamage(t *testing.T) {
	list := logTo(60)
	for _, c := range []struct {
		x    impl.Two
		h    impl.Head
		list []impl.Entry
	}{{stored(1, 4, 9), headAt(1, 4), list[4:9]}, {withHead(stored(0, 0, 20), onBoth, headAt(1, 3)), headAt(1, 3), list[3:20]}, {stored(0, 0, 0), impl.Head{}, nil}} {
		for at := range c.x.A.Kept {
			for i, old := range c.x.A.Kept[at] {
				for _, n := range []int64{0, 1, old + 1, old + 20, old - 20, old + 999999937, impl.MaxNum, c.x.A.Kept[at][0]} {
					if n < 0 || n > impl.MaxNum {
						continue
					}
					for _, d := range []*impl.Disk{&c.x.A, &c.x.B} {
						whole, ok := *d, false
						*d, ok = impl.Rotted(whole, int64(at), int64(i), n)
						wantIs(t, "Rotted", ok, true)
						y, head, book, is := impl.Recovered(c.x)
						*d = whole
						if !is || twoText(y) != twoText(recoveredDisks(c.h, c.list)) || headText(head) != headText(c.h) || !slices.Equal(book.Entries, c.list) {
							t.Fatalf("number %d of sector %d set to %d: got %s %s %s", i, at, n, headText(head), bookText(book), twoText(y))
						}
					}
				}
			}
		}
		wantRecovered(t, "nothing damaged", c.x, c.h, c.list...)
		for at := range int64(22) {
			wantRecovered(t, "a sector of A lost", withRaw(c.x, onA, at, []int64{9}), c.h, c.list...)
			wantRecovered(t, "a sector of B lost", withRaw(c.x, onB, at, nil), c.h, c.list...)
		}
	}
}

// All disks that the other tests use, against the definition.
func TestRecoveredEverywhere(t *testing.T) {
	for _, x := range keptDisks() {
		synced := bothSyncedByHand(x)
		h, is := headInByHand(synced)
		if !is {
			wantNotRecovered(t, twoText(x), x)
			continue
		}
		wantRecovered(t, twoText(x), x, h, bookInByHand(synced, h).Entries...)
	}
}

// A history is what one log has stored: all its entries from the first one on, the last one that is
// synced, and the synced head, which one that waits may follow.
type history struct {
	x      impl.Two
	list   []impl.Entry
	synced int64
	heads  []impl.Head
	lives  int64
}

// newHistory returns that of new disks.
func newHistory() *history {
	return &history{x: impl.NewKept(), heads: []impl.Head{{}}}
}

// headOfBase returns the next head, after that entry.
func (m *history) headOfBase(base int64) impl.Head {
	seen, _ := overByHand(nil, m.list[:base])
	return headOf(m.heads[len(m.heads)-1].Num+1, base, m.list[base-1].Time, seen...)
}

// append stores one more entry, whose value tells after how many crashes this was, unless an entry
// that is still needed would be overwritten or too many writes wait.
func (m *history) append(t *testing.T, client int64) {
	t.Helper()
	index, last := int64(len(m.list))+1, impl.Entry{}
	if index > 1 {
		last = m.list[len(m.list)-1]
	}
	if index > m.heads[0].Base+20 || len(m.x.A.Wait) >= 60 {
		return
	}
	seq := 1 + int64(len(clientsByHand(m.list, client)))
	e := entryOf(index, last.Time+index%2, client, seq, 1, index%10, m.lives, 0, 0)
	m.x = keptAll(t, m.x, e)
	m.list = append(m.list, e)
}

// sync makes everything persistent.
func (m *history) sync() {
	m.x = impl.BothSynced(m.x)
	m.synced = int64(len(m.list))
	m.heads = m.heads[len(m.heads)-1:]
}

// trim stores the next head, after a synced entry, if none waits.
func (m *history) trim(t *testing.T, base int64) {
	t.Helper()
	if len(m.heads) > 1 || base <= m.heads[0].Base || base > m.synced || len(m.x.A.Wait) >= 60 {
		return
	}
	h := m.headOfBase(base)
	next, ok := impl.KeptHead(m.x, h)
	wantIs(t, "KeptHead of "+headText(h), ok, true)
	m.x, m.heads = next, append(m.heads, h)
}

// crashed lets the disks, which a crash has left, be recovered, and goes on with what there is. It
// fails the test if anything that was synced is missing, or anything is there that was not stored.
func (m *history) crashed(t *testing.T, what string, x impl.Two) {
	t.Helper()
	y, h, book, is := impl.Recovered(x)
	known := slices.ContainsFunc(m.heads, func(other impl.Head) bool { return headText(other) == headText(h) })
	last := h.Base + int64(len(book.Entries))
	if !is || !known || last < m.synced || last > int64(len(m.list)) {
		t.Fatalf("%s: recovered %v, head %s, up to %d, but synced were %d of %d: %s", what, is, headText(h), last, m.synced, len(m.list), twoText(x))
	}
	wantRecovered(t, what, x, h, m.list[h.Base:last]...)
	equalBooks(t, what, book, bookOf(h.Base, h.Time, m.list[h.Base:last]...))
	m.x, m.list, m.synced, m.heads = y, slices.Clone(m.list[:last]), last, []impl.Head{h}
	m.lives++
}

// damaged returns the disk with one of its persistent numbers changed, if the sector chosen has any.
func damaged(r *rand.Rand, d impl.Disk) impl.Disk {
	at := r.Intn(len(d.Kept))
	if len(d.Kept[at]) == 0 {
		return d
	}
	i := r.Intn(len(d.Kept[at]))
	old := d.Kept[at][i]
	n := []int64{old + 1, old + 20, max(old-20, 0), r.Int63n(30), r.Int63n(impl.MaxNum), (old + 999999937) % impl.MaxNum}[r.Intn(6)]
	d, _ = impl.Rotted(d, int64(at), int64(i), n)
	return d
}

// Two entries and a head that are not synced, in both orders, with every fate that they can have on
// both disks; some of them with a number of the second disk damaged.
func TestRecoveredWithEveryFate(t *testing.T) {
	r := rand.New(rand.NewSource(10))
	for _, c := range []struct {
		order  string
		synced int
	}{{"eeh", 3}, {"hee", 3}, {"ehe", 19}, {"eeh", 19}, {"eee", 18}} {
		m := newHistory()
		for i := range c.synced {
			m.append(t, 2+int64(i%3))
		}
		m.sync()
		m.trim(t, 1)
		m.sync()
		for i, step := range c.order {
			if step == 'e' {
				m.append(t, 3+int64(i%3))
			} else {
				m.trim(t, 2)
			}
		}
		if len(m.x.A.Wait) != 3 {
			t.Fatalf("%s: not all of it waits: %s", c.order, twoText(m.x))
		}
		for n, fates := range smallRows(6, 2) {
			if len(fates) < 6 {
				continue
			}
			after, fallen := *m, impl.BothFallen(m.x, fates)
			if n%2 == 1 {
				fallen.B = damaged(r, fallen.B)
			}
			after.crashed(t, c.order+" with "+textOf(fates), fallen)
		}
	}
}

// Long random lives of a log: entries and heads are stored and synced, and crashes leave what they
// like of the rest, also with a number of one disk damaged. Whatever was lost in one crash is stored
// anew with another value, so that it would be seen if it came back.
func TestLogAgainstItsHistory(t *testing.T) {
	crashes, trimmed := 0, int64(0)
	for seed := range int64(30) {
		r := rand.New(rand.NewSource(seed))
		m := newHistory()
		for range 250 {
			switch r.Intn(12) {
			case 0:
				fates := make([]int64, 2*len(m.x.A.Wait))
				for i := range fates {
					fates[i] = r.Int63n(3)
				}
				x := impl.BothFallen(m.x, fates)
				if d := []*impl.Disk{&x.A, &x.B}[r.Intn(2)]; r.Intn(2) == 0 {
					*d = damaged(r, *d)
				}
				m.crashed(t, "seed "+textOf([]int64{seed}), x)
				crashes++
			case 1:
				m.crashed(t, "all kept, seed "+textOf([]int64{seed}), m.x)
			case 2, 3:
				m.sync()
			case 4, 5:
				m.trim(t, m.heads[0].Base+r.Int63n(12))
			default:
				m.append(t, 2+r.Int63n(4))
			}
		}
		trimmed += m.heads[0].Base
	}
	if crashes < 500 || trimmed < 1000 {
		t.Errorf("only %d crashes, and %d entries forgotten", crashes, trimmed)
	}
}

// Entries that a crash has taken do not come back after another one, at every place after which they
// are lost.
func TestLostEntriesDoNotComeBack(t *testing.T) {
	for synced := range int64(18) {
		m := newHistory()
		for i := range synced {
			m.append(t, 2+i%4)
		}
		m.sync()
		m.append(t, 4)
		m.append(t, 5)
		m.append(t, 4)
		// The first one is lost or torn, the others are kept, on one disk or on both.
		for _, fates := range [][]int64{{0, 0, 1, 1, 1, 1}, {2, 2, 1, 0, 0, 1}, {0, 2, 1, 1, 0, 0}} {
			after := *m
			after.crashed(t, "the first one lost", impl.BothFallen(m.x, fates))
			if after.synced != synced {
				t.Errorf("of %d synced entries %d are recovered", synced, after.synced)
			}
			lost := m.list[synced+1]
			after.append(t, 4)
			after.sync()
			after.crashed(t, "another one in its place", after.x)
			if len(after.list) != int(synced)+1 || after.list[synced] == m.list[synced] {
				t.Errorf("after %d synced entries and one more: %s", synced, entriesText(after.list))
			}
			for at := range int64(22) {
				for _, row := range impl.RightAt(after.x, at) {
					if e, is := impl.RowSlot(row); is && e == lost {
						t.Errorf("the lost entry %s is still in sector %d", textOf(entryInts(e)), at)
					}
				}
			}
		}
	}
}

func TestKeptThatIsNotAccepted(t *testing.T) {
	entries, heads := append(badEntries()[:30], logTo(20)...), append(badHeads()[:30], goodHeads()[:20]...)
	for i, x := range badKept() {
		e, h := entries[i%len(entries)], heads[i%len(heads)]
		for _, e := range []impl.Entry{e, logTo(3)[2], {}} {
			wantKeptEntry(t, x, e, impl.Two{}, false)
		}
		for _, h := range []impl.Head{h, headAt(1, 30), {}, headOf(-1, -1, -1)} {
			wantKeptHead(t, x, h, impl.Two{}, false)
			equalBooks(t, "BookIn of disks that are not accepted", impl.BookIn(x, h), impl.Book{})
		}
		wantHeadIn(t, "disks that are not accepted", x, impl.Head{}, false)
		wantNotRecovered(t, "disks that are not accepted", x)
	}
	full := stored(0, 0, 20)
	for _, h := range badHeads() {
		equalBooks(t, "BookIn after a head that is not valid", impl.BookIn(full, h), impl.Book{})
	}
}

// All that a function of the disks can return.
type keptResult struct {
	x    impl.Two
	h    impl.Head
	b    impl.Book
	rows impl.Disk
}

// resultText writes a result with all its numbers.
func resultText(k keptResult) string {
	return twoText(k.x) + headText(k.h) + " " + bookText(k.b) + diskText(k.rows)
}

// wipedResult overwrites all memory of a result.
func wipedResult(k keptResult) {
	wipedTwo(k.x)
	wipedMarks(k.h.Seen)
	wipedEntries(k.b.Entries)
	wipedDisk(k.rows)
}

// keptCalls are the functions of this chapter that take or return slices.
func keptCalls() map[string]func(x impl.Two, h impl.Head, e impl.Entry, row []int64) keptResult {
	return map[string]func(x impl.Two, h impl.Head, e impl.Entry, row []int64) (k keptResult){
		"HeadOk": func(_ impl.Two, h impl.Head, _ impl.Entry, _ []int64) (k keptResult) { impl.HeadOk(h); return },
		"HeadRow": func(_ impl.Two, h impl.Head, _ impl.Entry, _ []int64) keptResult {
			return keptResult{rows: diskOf(impl.HeadRow(h))}
		},
		"RowHead": func(_ impl.Two, _ impl.Head, _ impl.Entry, row []int64) (k keptResult) {
			k.h, _ = impl.RowHead(row)
			return
		},
		"SlotRow": func(_ impl.Two, _ impl.Head, e impl.Entry, _ []int64) keptResult {
			return keptResult{rows: diskOf(impl.SlotRow(e))}
		},
		"RowSlot": func(_ impl.Two, _ impl.Head, _ impl.Entry, row []int64) (k keptResult) { impl.RowSlot(row); return },
		"KeptOk":  func(x impl.Two, _ impl.Head, _ impl.Entry, _ []int64) (k keptResult) { impl.KeptOk(x); return },
		"NewKept": func(impl.Two, impl.Head, impl.Entry, []int64) keptResult { return keptResult{x: impl.NewKept()} },
		"KeptEntry": func(x impl.Two, _ impl.Head, e impl.Entry, _ []int64) (k keptResult) {
			k.x, _ = impl.KeptEntry(x, e)
			return
		},
		"KeptHead": func(x impl.Two, h impl.Head, _ impl.Entry, _ []int64) (k keptResult) {
			k.x, _ = impl.KeptHead(x, h)
			return
		},
		"HeadIn": func(x impl.Two, _ impl.Head, _ impl.Entry, _ []int64) (k keptResult) { k.h, _ = impl.HeadIn(x); return },
		"BookIn": func(x impl.Two, h impl.Head, _ impl.Entry, _ []int64) keptResult {
			return keptResult{b: impl.BookIn(x, h)}
		},
		"Recovered": func(x impl.Two, _ impl.Head, _ impl.Entry, _ []int64) (k keptResult) {
			k.x, k.h, k.b, _ = impl.Recovered(x)
			return
		},
	}
}

// wantKeptApart fails the test if a call changes an argument, its spare capacity included, or
// returns memory that is the argument's, that of another result or of another part of the result.
func wantKeptApart(t *testing.T, what string, call func(impl.Two, impl.Head, impl.Entry, []int64) keptResult, x impl.Two, h impl.Head, e impl.Entry, list []int64) {
	t.Helper()
	x, h = roomyTwo(x), clonedHead(h)
	marks, allMarks := roomyMarks(h.Seen)
	row, numbers := roomy(list...)
	h.Seen = marks
	before := wholeText(x) + marksText(allMarks) + textOf(numbers)
	one, other, third := call(x, h, e, row), call(x, h, e, row), call(x, h, e, row)
	want := resultText(one)
	wantTwoApart(t, what, third.x)
	wipedResult(one)
	if after := wholeText(x) + marksText(allMarks) + textOf(numbers); after != before {
		t.Errorf("%s has changed its arguments or shares their memory: %s, before %s", what, after, before)
	}
	wipedTwo(x)
	wipedMarks(allMarks)
	wiped(numbers)
	if got := resultText(other); got != want {
		t.Errorf("%s, its arguments and an earlier result wiped: got %s, want %s", what, got, want)
	}
}

func TestKeptChangesNoArgument(t *testing.T) {
	entries := append(logTo(24), impl.Entry{}, entryOf(2001, 40, 4, 1500, 2, 4, 0, 0, 0))
	heads := append(goodHeads(), badHeads()[:40]...)
	for name, call := range keptCalls() {
		for i, x := range append(keptDisks(), someOf(badKept(), 5)...) {
			for n := range 6 {
				h, e := heads[(7*i+n)%len(heads)], entries[(5*i+n)%len(entries)]
				for _, row := range [][]int64{nil, headRowByHand(headAt(2, 9)), slotRowByHand(e), repeated(13, 1)} {
					wantKeptApart(t, name, call, x, h, e, row)
				}
			}
		}
		// The head that the disks have, so that there is a book after it.
		for _, x := range keptDisks() {
			h, _ := headInByHand(x)
			wantKeptApart(t, name, call, x, h, entries[0], headRowByHand(h))
		}
	}
}

// Both disks of an argument may be the same one; those of the result are not.
func TestKeptOfOneDiskTwice(t *testing.T) {
	for name, call := range keptCalls() {
		for _, x := range keptDisks() {
			disk := roomyDisk(x.A)
			before := diskText(wholeDisk(disk))
			k := call(impl.Two{A: disk, B: disk}, headAt(1, 5), logTo(3)[2], headRowByHand(headAt(2, 9)))
			wantTwoApart(t, name+" of one disk twice", k.x)
			if after := diskText(wholeDisk(disk)); after != before {
				t.Errorf("%s has changed the disk that it was given twice: %s, before %s", name, after, before)
			}
		}
	}
}
