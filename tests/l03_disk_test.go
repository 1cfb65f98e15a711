package tests

import (
	"math"
	"math/rand"
	"slices"
	"strings"
	"testing"

	"loop.example/g00851/impl"
)

// diskText writes a disk with all its numbers; nil and empty slices are written alike.
func diskText(d impl.Disk) string {
	var b strings.Builder
	for _, row := range d.Kept {
		b.WriteString("kept [" + textOf(row) + "] ")
	}
	for _, w := range d.Wait {
		b.WriteString("wait " + textOf([]int64{w.At}) + " [" + textOf(w.Row) + "] ")
	}
	return b.String()
}

// equalDisks fails the test if got and want differ.
func equalDisks(t *testing.T, what string, got, want impl.Disk) {
	t.Helper()
	if diskText(got) != diskText(want) {
		t.Errorf("%s: got %s, want %s", what, diskText(got), diskText(want))
	}
}

// clonedDisk returns a disk with memory of its own.
func clonedDisk(d impl.Disk) impl.Disk {
	var c impl.Disk
	for _, row := range d.Kept {
		c.Kept = append(c.Kept, slices.Clone(row))
	}
	for _, w := range d.Wait {
		c.Wait = append(c.Wait, impl.Write{At: w.At, Row: slices.Clone(w.Row)})
	}
	return c
}

// diskOf returns a disk with these persistent rows and no waiting writes.
func diskOf(kept ...[]int64) impl.Disk { return impl.Disk{Kept: kept} }

// waiting returns the disk with more waiting writes.
func waiting(d impl.Disk, writes ...impl.Write) impl.Disk {
	d = clonedDisk(d)
	d.Wait = append(d.Wait, writes...)
	return d
}

// manyWrites returns writes to the sectors of a disk, in turn.
func manyWrites(many int, sectors int64) []impl.Write {
	writes := make([]impl.Write, many)
	for i := range writes {
		writes[i] = impl.Write{At: int64(i) % sectors, Row: repeated(i%(impl.MaxRow+1), int64(i))}
	}
	return writes
}

// goodDisks are valid, among them the smallest and the largest ones.
func goodDisks() []impl.Disk {
	large := impl.Disk{Kept: make([][]int64, impl.MaxSectors)}
	for i := range large.Kept {
		large.Kept[i] = repeated(impl.MaxRow-i, impl.MaxNum)
	}
	small := diskOf([]int64{1, 2, 3})
	three := diskOf(nil, []int64{1, 2, 3, 4}, []int64{0, impl.MaxNum})
	return []impl.Disk{
		diskOf(nil), diskOf([]int64{}), small, three, large,
		diskOf(goodRows()...),
		waiting(small, impl.Write{At: 0}),
		waiting(small, manyWrites(59, 1)...),
		waiting(small, manyWrites(60, 1)...),
		waiting(three, impl.Write{At: 1, Row: []int64{5, 6, 7}}, impl.Write{At: 2, Row: []int64{8}}),
		waiting(three, impl.Write{At: 2, Row: repeated(48, impl.MaxNum)}, impl.Write{At: 2}),
		waiting(large, impl.Write{At: 39, Row: []int64{4, 5}}),
		waiting(large, manyWrites(60, 40)...),
	}
}

// badDisks are not valid, for one reason each.
func badDisks() []impl.Disk {
	two := diskOf([]int64{1}, []int64{2})
	bad := []impl.Disk{
		{}, {Kept: [][]int64{}, Wait: []impl.Write{}}, {Wait: []impl.Write{{At: 0}}},
		{Kept: make([][]int64, 41)}, {Kept: make([][]int64, 1000)},
		{Kept: make([][]int64, 41), Wait: []impl.Write{{At: 40, Row: []int64{1}}}},
		waiting(two, make([]impl.Write, 61)...), waiting(two, make([]impl.Write, 1000)...),
	}
	for _, at := range []int64{-1, 2, 3, 40, 1 << 32, math.MinInt64, math.MaxInt64} {
		bad = append(bad, waiting(two, impl.Write{At: at, Row: []int64{1}}),
			waiting(two, impl.Write{At: 1}, impl.Write{At: at}), waiting(two, impl.Write{At: at}, impl.Write{At: 1}))
	}
	for _, row := range badRows() {
		bad = append(bad, diskOf(row), diskOf(row, nil), diskOf(nil, row),
			waiting(two, impl.Write{At: 1, Row: row}),
			waiting(two, impl.Write{At: 1, Row: row}, impl.Write{At: 1, Row: []int64{1}}),
			waiting(two, impl.Write{At: 0, Row: []int64{1}}, impl.Write{At: 1, Row: row}))
	}
	return bad
}

// noSectors are indices at which a disk with that many sectors has none.
func noSectors(sectors int) []int64 {
	many := int64(sectors)
	return []int64{-1, many, -many, many + 1, impl.MaxSectors, 1 << 32, math.MinInt64, math.MaxInt64}
}

func TestConstantsOfDisks(t *testing.T) {
	if impl.MaxSectors != 40 || impl.MaxWait != 60 {
		t.Error(impl.MaxSectors, impl.MaxWait)
	}
	if impl.FtLost != 0 || impl.FtKept != 1 || impl.FtTorn != 2 {
		t.Error(impl.FtLost, impl.FtKept, impl.FtTorn)
	}
}

func TestDiskOkAndSafeIn(t *testing.T) {
	for _, d := range goodDisks() {
		if !impl.DiskOk(d) {
			t.Errorf("a valid disk: %s", diskText(d))
		}
		if got, want := impl.SafeIn(d), len(d.Wait) == 0; got != want {
			t.Errorf("SafeIn: got %v, want %v: %s", got, want, diskText(d))
		}
	}
	for _, d := range badDisks() {
		if impl.DiskOk(d) {
			t.Errorf("not a valid disk: %s", diskText(d))
		}
		if impl.SafeIn(d) {
			t.Errorf("not valid, so not safe: %s", diskText(d))
		}
	}
}

func TestNewDisk(t *testing.T) {
	for sectors := int64(1); sectors <= 40; sectors++ {
		d := impl.NewDisk(sectors)
		equalDisks(t, "NewDisk", d, impl.Disk{Kept: make([][]int64, sectors)})
		if !impl.DiskOk(d) || !impl.SafeIn(d) {
			t.Errorf("NewDisk(%d) is not valid or not safe", sectors)
		}
	}
	for _, sectors := range []int64{0, -1, 41, -40, 1 << 32, 1<<32 + 1, math.MinInt64, math.MaxInt64} {
		equalDisks(t, "NewDisk out of range", impl.NewDisk(sectors), impl.Disk{})
	}
}

// wantRead fails the test if a sector does not contain that row.
func wantRead(t *testing.T, d impl.Disk, at int64, want []int64) {
	t.Helper()
	row, ok := impl.ReadAt(d, at)
	if !ok {
		t.Errorf("ReadAt %d finds nothing: %s", at, diskText(d))
	}
	equalInts(t, "ReadAt", row, want)
}

// wantReadNothing fails the test if ReadAt finds a row.
func wantReadNothing(t *testing.T, d impl.Disk, at int64) {
	t.Helper()
	if row, ok := impl.ReadAt(d, at); ok || len(row) != 0 {
		t.Errorf("ReadAt %d: got %v %v, want nothing: %s", at, row, ok, diskText(d))
	}
}

func TestReadAt(t *testing.T) {
	d := diskOf(nil, []int64{1, 2, 3, 4}, []int64{9})
	wantRead(t, d, 0, nil)
	wantRead(t, d, 1, []int64{1, 2, 3, 4})
	wantRead(t, d, 2, []int64{9})
	d.Wait = []impl.Write{{At: 1, Row: []int64{5, 6}}, {At: 2, Row: []int64{7}}}
	wantRead(t, d, 0, nil)
	wantRead(t, d, 1, []int64{5, 6})
	wantRead(t, d, 2, []int64{7})
	// An empty row that waits is read as well, and the last of several.
	d.Wait = append(d.Wait, impl.Write{At: 1, Row: []int64{8}}, impl.Write{At: 2})
	wantRead(t, d, 0, nil)
	wantRead(t, d, 1, []int64{8})
	wantRead(t, d, 2, nil)
}

func TestReadAtEverySector(t *testing.T) {
	for _, d := range goodDisks() {
		for at := range d.Kept {
			want := d.Kept[at]
			last := slices.IndexFunc(backwards(d.Wait), func(w impl.Write) bool { return w.At == int64(at) })
			if last >= 0 {
				want = backwards(d.Wait)[last].Row
			}
			wantRead(t, d, int64(at), want)
		}
		for _, at := range noSectors(len(d.Kept)) {
			wantReadNothing(t, d, at)
		}
	}
}

// backwards returns the writes in the opposite order.
func backwards(writes []impl.Write) []impl.Write {
	other := slices.Clone(writes)
	slices.Reverse(other)
	return other
}

func TestWrote(t *testing.T) {
	for _, d := range goodDisks() {
		for at := range d.Kept {
			for _, row := range goodRows() {
				got, ok := impl.Wrote(d, int64(at), row)
				want := d
				if len(d.Wait) < 60 {
					want = waiting(d, impl.Write{At: int64(at), Row: row})
				}
				if ok != (len(d.Wait) < 60) {
					t.Errorf("Wrote: got %v with %d waiting writes", ok, len(d.Wait))
				}
				equalDisks(t, "Wrote", got, want)
			}
		}
	}
}

// wantNotWrote fails the test if a write is accepted or anything is changed.
func wantNotWrote(t *testing.T, d impl.Disk, at int64, row []int64, want impl.Disk) {
	t.Helper()
	got, ok := impl.Wrote(d, at, row)
	if ok {
		t.Errorf("Wrote %v to %d: %s", row, at, diskText(d))
	}
	equalDisks(t, "Wrote what cannot be written", got, want)
}

func TestWroteNothing(t *testing.T) {
	for _, d := range goodDisks() {
		for _, at := range noSectors(len(d.Kept)) {
			wantNotWrote(t, d, at, []int64{1}, d)
			wantNotWrote(t, d, at, nil, d)
			wantNotWrote(t, d, at, []int64{-1}, d)
		}
		for _, row := range badRows() {
			wantNotWrote(t, d, 0, row, d)
			wantNotWrote(t, d, int64(len(d.Kept))-1, row, d)
		}
	}
}

func TestWroteUntilTooManyWait(t *testing.T) {
	d := impl.NewDisk(3)
	writes := manyWrites(60, 3)
	for i, w := range writes {
		var ok bool
		d, ok = impl.Wrote(d, w.At, w.Row)
		if !ok {
			t.Fatalf("write %d is not possible", i)
		}
		equalDisks(t, "Wrote again", d, waiting(impl.NewDisk(3), writes[:i+1]...))
	}
	wantNotWrote(t, d, 0, nil, d)
	wantNotWrote(t, d, 2, []int64{1}, d)
	if d, ok := impl.Wrote(impl.Synced(d), 0, nil); !ok || len(d.Wait) != 1 {
		t.Error("after Synced there is room again")
	}
	if d, ok := impl.Wrote(impl.Fallen(d, nil), 0, nil); !ok || len(d.Wait) != 1 {
		t.Error("after a crash there is room again")
	}
}

func TestSynced(t *testing.T) {
	for _, d := range goodDisks() {
		want := diskOf(clonedDisk(d).Kept...)
		for at := range d.Kept {
			want.Kept[at], _ = impl.ReadAt(d, int64(at))
		}
		got := impl.Synced(d)
		equalDisks(t, "Synced", got, want)
		if !impl.SafeIn(got) {
			t.Error("a synced disk is not safe")
		}
		equalDisks(t, "Synced again", impl.Synced(got), want)
	}
	d := waiting(diskOf([]int64{1, 2, 3}, []int64{4}, nil),
		impl.Write{At: 0, Row: []int64{5, 6}}, impl.Write{At: 2, Row: []int64{7}}, impl.Write{At: 0, Row: []int64{8}}, impl.Write{At: 1})
	equalDisks(t, "Synced in order", impl.Synced(d), diskOf([]int64{8}, nil, []int64{7}))
}

// tornByHand returns, number by number, what a torn write leaves.
func tornByHand(row, old []int64) []int64 {
	half := len(row) / 2
	var left []int64
	for k := range max(half, len(old)) {
		if k < half {
			left = append(left, row[k])
		} else {
			left = append(left, old[k])
		}
	}
	return left
}

// fallenByHand is the definition of Fallen: each sector by itself, with the writes to it.
func fallenByHand(d impl.Disk, fates []int64) impl.Disk {
	left := diskOf(clonedDisk(d).Kept...)
	for at := range left.Kept {
		for i, w := range d.Wait {
			if w.At != int64(at) || i >= len(fates) {
				continue
			}
			if fates[i] == 1 {
				left.Kept[at] = w.Row
			}
			if fates[i] == 2 {
				left.Kept[at] = tornByHand(w.Row, left.Kept[at])
			}
		}
	}
	return left
}

// wantFallen fails the test if a crash does not leave the disk wanted, valid and safe.
func wantFallen(t *testing.T, d impl.Disk, fates []int64, want impl.Disk) {
	t.Helper()
	got := impl.Fallen(d, fates)
	equalDisks(t, "Fallen", got, want)
	if !impl.DiskOk(got) || !impl.SafeIn(got) {
		t.Errorf("Fallen with %v is not valid or not safe: %s", fates, diskText(got))
	}
}

func TestTornWrite(t *testing.T) {
	full, old := repeated(48, 5), repeated(48, impl.MaxNum)
	for _, c := range []struct{ old, row, want []int64 }{
		// over a longer row, of even and odd length
		{[]int64{1, 2, 3, 4, 5}, []int64{6, 7, 8, 9}, []int64{6, 7, 3, 4, 5}},
		{[]int64{1, 2, 3, 4}, []int64{5, 6, 7}, []int64{5, 2, 3, 4}},
		{[]int64{1, 2}, []int64{5}, []int64{1, 2}},
		// over a row of the same length
		{[]int64{1, 2, 3, 4}, []int64{5, 6, 7, 8}, []int64{5, 6, 3, 4}},
		{[]int64{1, 2, 3}, []int64{5, 6, 7}, []int64{5, 2, 3}},
		{[]int64{1}, []int64{5}, []int64{1}},
		{old, full, slices.Concat(full[:24], old[:24])},
		// over a shorter row that is longer than the half, as long, one shorter, and shorter still
		{[]int64{1, 2, 3}, []int64{5, 6, 7, 8}, []int64{5, 6, 3}},
		{[]int64{1, 2}, []int64{5, 6, 7, 8}, []int64{5, 6}},
		{[]int64{1, 2}, []int64{5, 6, 7, 8, 9}, []int64{5, 6}},
		{[]int64{1}, []int64{5, 6, 7, 8}, []int64{5, 6}},
		{[]int64{1}, []int64{5, 6, 7, 8, 9, 10, 11}, []int64{5, 6, 7}},
		{old[:47], full, slices.Concat(full[:24], old[:23])},
		{old[:3], full[:47], full[:23]},
		// over an empty row
		{nil, []int64{5, 6, 7, 8}, []int64{5, 6}},
		{nil, []int64{5, 6, 7}, []int64{5}},
		{nil, []int64{5}, nil},
		{[]int64{}, full, full[:24]},
		// of no numbers
		{[]int64{1, 2, 3}, nil, []int64{1, 2, 3}},
		{[]int64{1, 2, 3}, []int64{}, []int64{1, 2, 3}},
		{nil, nil, nil},
		{old, nil, old},
	} {
		d := waiting(diskOf([]int64{4}, c.old, []int64{4}), impl.Write{At: 1, Row: c.row})
		wantFallen(t, d, []int64{impl.FtTorn}, diskOf([]int64{4}, c.want, []int64{4}))
		equalInts(t, "by hand", tornByHand(c.row, c.old), c.want)
	}
}

func TestTornWriteOfEveryLength(t *testing.T) {
	for old := range 49 {
		for many := range 49 {
			row := upTo(many)
			d := waiting(diskOf(repeated(old, 99)), impl.Write{At: 0, Row: row})
			wantFallen(t, d, []int64{impl.FtTorn}, diskOf(tornByHand(row, repeated(old, 99))))
		}
	}
}

func TestFallenWithTwoWritesToOneSector(t *testing.T) {
	d := waiting(diskOf(nil, []int64{1, 2, 3, 4, 5}),
		impl.Write{At: 1, Row: []int64{6, 7, 8, 9}}, impl.Write{At: 1, Row: []int64{11, 12}})
	for _, c := range []struct{ fates, want []int64 }{
		{[]int64{impl.FtLost, impl.FtLost}, []int64{1, 2, 3, 4, 5}},
		{[]int64{impl.FtLost, impl.FtKept}, []int64{11, 12}},
		{[]int64{impl.FtLost, impl.FtTorn}, []int64{11, 2, 3, 4, 5}},
		{[]int64{impl.FtKept, impl.FtLost}, []int64{6, 7, 8, 9}},
		{[]int64{impl.FtKept, impl.FtKept}, []int64{11, 12}},
		{[]int64{impl.FtKept, impl.FtTorn}, []int64{11, 7, 8, 9}},
		{[]int64{impl.FtTorn, impl.FtLost}, []int64{6, 7, 3, 4, 5}},
		{[]int64{impl.FtTorn, impl.FtKept}, []int64{11, 12}},
		{[]int64{impl.FtTorn, impl.FtTorn}, []int64{11, 7, 3, 4, 5}},
	} {
		wantFallen(t, d, c.fates, diskOf(nil, c.want))
	}
}

func TestFallenWithFewerOrMoreFates(t *testing.T) {
	d := waiting(diskOf([]int64{1, 2}, []int64{3, 4}), impl.Write{At: 0, Row: []int64{5}}, impl.Write{At: 1, Row: []int64{6}})
	first, second, both := diskOf([]int64{5}, []int64{3, 4}), diskOf([]int64{1, 2}, []int64{6}), diskOf([]int64{5}, []int64{6})
	none := diskOf(d.Kept...)
	wantFallen(t, d, nil, none)
	wantFallen(t, d, []int64{}, none)
	wantFallen(t, d, []int64{impl.FtKept}, first)
	wantFallen(t, d, []int64{impl.FtLost}, none)
	wantFallen(t, d, []int64{impl.FtLost, impl.FtKept}, second)
	wantFallen(t, d, []int64{impl.FtKept, impl.FtKept}, both)
	wantFallen(t, d, []int64{impl.FtKept, impl.FtKept, impl.FtLost}, both)
	wantFallen(t, d, []int64{impl.FtLost, impl.FtLost, impl.FtKept, impl.FtTorn}, none)
	wantFallen(t, d, append([]int64{impl.FtLost, impl.FtKept}, repeated(1000, impl.FtTorn)...), second)
	// Spare capacity of the fates is not a fate.
	spare := []int64{impl.FtKept, impl.FtKept}
	wantFallen(t, d, spare[:1], first)
	wantFallen(t, d, spare[:0], none)
	wantFallen(t, impl.NewDisk(2), []int64{impl.FtKept, impl.FtTorn}, impl.NewDisk(2))
}

// otherFates are numbers that are not fates, so that the write is lost.
func otherFates() []int64 {
	return []int64{-1, -2, 3, 4, 258, 1<<32 + 1, 1<<32 + 2, impl.MaxNum, math.MinInt64, math.MaxInt64}
}

func TestFallenWithOtherFates(t *testing.T) {
	d := waiting(diskOf([]int64{1, 2}, nil), impl.Write{At: 0, Row: []int64{5, 6, 7}}, impl.Write{At: 1, Row: []int64{8}})
	for _, fate := range otherFates() {
		wantFallen(t, d, []int64{fate, fate}, diskOf(d.Kept...))
		wantFallen(t, d, []int64{fate, impl.FtKept}, diskOf([]int64{1, 2}, []int64{8}))
		wantFallen(t, d, []int64{impl.FtTorn, fate}, diskOf([]int64{5, 2}, nil))
	}
}

// Every fate of every write of short lists of writes to two sectors.
func TestFallenWithEveryFate(t *testing.T) {
	rows := [][]int64{nil, {11}, {21, 22, 23}, {31, 32, 33, 34, 35, 36}}
	var writes []impl.Write
	for at := range int64(2) {
		for _, row := range rows {
			writes = append(writes, impl.Write{At: at, Row: row})
		}
	}
	lists := [][]impl.Write{nil}
	for i := 0; len(lists[i]) < 3; i++ {
		for _, w := range writes {
			lists = append(lists, append(slices.Clone(lists[i]), w))
		}
	}
	fates := smallRows(4, 3)
	for _, list := range lists {
		d := impl.Disk{Kept: [][]int64{{1, 2}, {3, 4, 5, 6}}, Wait: list}
		for _, f := range fates {
			if got, want := impl.Fallen(d, f), fallenByHand(d, f); diskText(got) != diskText(want) {
				t.Fatalf("Fallen with %v of %s: got %s, want %s", f, diskText(d), diskText(got), diskText(want))
			}
		}
	}
}

func TestFallenOfGoodDisks(t *testing.T) {
	r := rand.New(rand.NewSource(3))
	for _, d := range goodDisks() {
		wantFallen(t, d, nil, diskOf(d.Kept...))
		wantFallen(t, d, repeated(60, impl.FtKept), impl.Synced(d))
		for range 50 {
			fates := make([]int64, r.Intn(70))
			for i := range fates {
				fates[i] = r.Int63n(4)
			}
			wantFallen(t, d, fates, fallenByHand(d, fates))
		}
	}
}

func TestRotted(t *testing.T) {
	for _, d := range goodDisks() {
		for at, row := range d.Kept {
			if len(row) == 0 {
				continue
			}
			for _, i := range []int{0, len(row) / 2, len(row) - 1} {
				for _, n := range []int64{0, 70, impl.MaxNum} {
					got, ok := impl.Rotted(d, int64(at), int64(i), n)
					want := clonedDisk(d)
					want.Kept[at][i] = n
					if !ok {
						t.Errorf("Rotted number %d of sector %d to %d is not possible", i, at, n)
					}
					equalDisks(t, "Rotted", got, want)
				}
			}
		}
	}
}

// wantNotRotted fails the test if a number is set or anything is changed.
func wantNotRotted(t *testing.T, d impl.Disk, at, i, n int64, want impl.Disk) {
	t.Helper()
	got, ok := impl.Rotted(d, at, i, n)
	if ok {
		t.Errorf("Rotted %d of sector %d to %d: %s", i, at, n, diskText(d))
	}
	equalDisks(t, "Rotted what cannot rot", got, want)
}

func TestRottedNothing(t *testing.T) {
	for _, d := range goodDisks() {
		for _, at := range noSectors(len(d.Kept)) {
			wantNotRotted(t, d, at, 0, 1, d)
		}
		for k, row := range d.Kept {
			at, many := int64(k), int64(len(row))
			for _, i := range []int64{-1, many, many + 1, impl.MaxRow, 1 << 32, math.MinInt64, math.MaxInt64} {
				wantNotRotted(t, d, at, i, 1, d)
			}
			for _, n := range []int64{-1, impl.MaxNum + 1, math.MinInt64, math.MaxInt64} {
				wantNotRotted(t, d, at, 0, n, d)
			}
		}
	}
	// The number that a waiting write has at that index is not one of the persistent row.
	d := waiting(diskOf([]int64{1}), impl.Write{At: 0, Row: []int64{2, 3}})
	wantNotRotted(t, d, 0, 1, 5, d)
	got, _ := impl.Rotted(d, 0, 0, 5)
	equalDisks(t, "Rotted below a waiting write", got, waiting(diskOf([]int64{5}), d.Wait...))
	wantRead(t, got, 0, []int64{2, 3})
}

func TestDisksThatAreNotValid(t *testing.T) {
	for _, d := range badDisks() {
		for _, at := range []int64{-1, 0, 1, 2, 40, 41} {
			wantReadNothing(t, d, at)
			wantNotWrote(t, d, at, nil, impl.Disk{})
			wantNotWrote(t, d, at, []int64{1}, impl.Disk{})
			wantNotWrote(t, d, at, []int64{-1}, impl.Disk{})
			wantNotRotted(t, d, at, 0, 1, impl.Disk{})
			wantNotRotted(t, d, at, -1, 1, impl.Disk{})
			wantNotRotted(t, d, at, 0, -1, impl.Disk{})
		}
		equalDisks(t, "Synced of no disk", impl.Synced(d), impl.Disk{})
		for _, fates := range [][]int64{nil, {impl.FtKept}, repeated(100, impl.FtKept), repeated(100, impl.FtTorn)} {
			equalDisks(t, "Fallen of no disk", impl.Fallen(d, fates), impl.Disk{})
		}
	}
}

// Promise 3, its first half: whatever else is done, a synced row is there until its own sector is
// overwritten, and no row of another sector is touched.
func TestPersistentRowRemains(t *testing.T) {
	d, _ := impl.Wrote(impl.NewDisk(3), 1, []int64{1, 2, 3, 4})
	d = impl.Synced(d)
	for _, fate := range append(otherFates(), impl.FtLost, impl.FtKept, impl.FtTorn) {
		next := d
		for i := range int64(20) {
			next, _ = impl.Wrote(next, 2*(i%2), []int64{i, i})
			next, _ = impl.Rotted(next, 2*(i%2), 0, 70)
			equalInts(t, "with writes to others", next.Kept[1], []int64{1, 2, 3, 4})
			switch i % 3 {
			case 0:
				next = impl.Fallen(next, repeated(3, fate))
			case 1:
				next = impl.Synced(next)
			}
			wantRead(t, next, 1, []int64{1, 2, 3, 4})
		}
		waits, _ := impl.Wrote(next, 1, []int64{5})
		equalInts(t, "with a waiting write to it", waits.Kept[1], []int64{1, 2, 3, 4})
		wantRead(t, waits, 1, []int64{5})
		wantRead(t, impl.Fallen(waits, nil), 1, []int64{1, 2, 3, 4})
		wantRead(t, impl.Synced(waits), 1, []int64{5})
	}
}

// Promise 3, its second half: a crash leaves the old row, the new one, or the torn one, by fate.
func TestWaitingWriteIsKeptLostOrTorn(t *testing.T) {
	for _, old := range goodRows() {
		for _, row := range goodRows() {
			d, ok := impl.Wrote(diskOf(nil, old), 1, row)
			if !ok {
				t.Fatal(row)
			}
			wantRead(t, impl.Fallen(d, []int64{impl.FtLost}), 1, old)
			wantRead(t, impl.Fallen(d, []int64{impl.FtKept}), 1, row)
			wantRead(t, impl.Fallen(d, []int64{impl.FtTorn}), 1, tornByHand(row, old))
			for _, fate := range otherFates() {
				wantRead(t, impl.Fallen(d, []int64{fate}), 1, old)
			}
		}
	}
}

// A diskModel has for each sector its persistent row, followed by the rows that wait for it, and
// the sectors of the waiting writes in order.
type diskModel struct {
	rows  [][][]int64
	order []int
}

// disk returns the disk that the model stands for.
func (m *diskModel) disk() impl.Disk {
	var d impl.Disk
	for _, list := range m.rows {
		d.Kept = append(d.Kept, list[0])
	}
	next := make([]int, len(m.rows))
	for _, at := range m.order {
		next[at]++
		d.Wait = append(d.Wait, impl.Write{At: int64(at), Row: m.rows[at][next[at]]})
	}
	return d
}

// settle ends all waiting writes; fate says what becomes of write i.
func (m *diskModel) settle(fate func(i int) int64) {
	for i, at := range m.order {
		list := m.rows[at]
		left := list[0]
		switch fate(i) {
		case impl.FtKept:
			left = list[1]
		case impl.FtTorn:
			left = tornByHand(list[1], list[0])
		}
		m.rows[at] = append([][]int64{left}, list[2:]...)
	}
	m.order = nil
}

// write appends a waiting write if it is possible.
func (m *diskModel) write(at int64, row []int64) bool {
	if at < 0 || at >= int64(len(m.rows)) || !impl.RowOk(row) || len(m.order) >= 60 {
		return false
	}
	m.rows[at] = append(m.rows[at], slices.Clone(row))
	m.order = append(m.order, int(at))
	return true
}

// rot sets a number of a persistent row if it is possible.
func (m *diskModel) rot(at, i, n int64) bool {
	if at < 0 || at >= int64(len(m.rows)) || i < 0 || i >= int64(len(m.rows[at][0])) || n < 0 || n > impl.MaxNum {
		return false
	}
	m.rows[at][0] = slices.Clone(m.rows[at][0])
	m.rows[at][0][i] = n
	return true
}

// newModel returns the model of a new disk.
func newModel(sectors int) *diskModel {
	m := &diskModel{rows: make([][][]int64, sectors)}
	for i := range m.rows {
		m.rows[i] = [][]int64{nil}
	}
	return m
}

// Long plays of random operations, each step against the model.
func TestDiskAgainstModel(t *testing.T) {
	for seed := range int64(60) {
		r := rand.New(rand.NewSource(seed))
		sectors := 1 + r.Intn(6)
		m, d := newModel(sectors), impl.NewDisk(int64(sectors))
		for range 600 {
			at, is, want := int64(r.Intn(sectors+2)-1), true, true
			switch k := r.Intn(130); {
			case k < 2:
				m.settle(func(int) int64 { return impl.FtKept })
				d = impl.Synced(d)
			case k < 4:
				fates := make([]int64, r.Intn(70))
				for i := range fates {
					fates[i] = r.Int63n(5) - 1
				}
				m.settle(func(i int) int64 {
					if i < len(fates) {
						return fates[i]
					}
					return impl.FtLost
				})
				d = impl.Fallen(d, fates)
			case k < 30:
				i, n := int64(r.Intn(14)-1), []int64{-1, 0, 70, impl.MaxNum, impl.MaxNum + 1}[r.Intn(5)]
				want = m.rot(at, i, n)
				d, is = impl.Rotted(d, at, i, n)
			default:
				row := randomRow(r, 12)
				want = m.write(at, row)
				d, is = impl.Wrote(d, at, row)
			}
			if is != want || diskText(d) != diskText(m.disk()) || !impl.DiskOk(d) {
				t.Fatalf("seed %d: got %v %s, want %v %s", seed, is, diskText(d), want, diskText(m.disk()))
			}
		}
	}
}

// roomyDisk returns a disk all of whose slices have spare capacity that is in use elsewhere.
func roomyDisk(d impl.Disk) impl.Disk {
	var c impl.Disk
	for _, row := range append(slices.Clone(d.Kept), []int64{91}, []int64{92}) {
		s, _ := roomy(row...)
		c.Kept = append(c.Kept, s)
	}
	for _, w := range append(slices.Clone(d.Wait), impl.Write{At: 93}, impl.Write{At: 94, Row: []int64{95}}) {
		s, _ := roomy(w.Row...)
		c.Wait = append(c.Wait, impl.Write{At: w.At, Row: s})
	}
	c.Kept, c.Wait = c.Kept[:len(d.Kept)], c.Wait[:len(d.Wait)]
	return c
}

// wholeDisk returns the disk with the spare capacity of all its slices.
func wholeDisk(d impl.Disk) impl.Disk {
	var c impl.Disk
	for _, row := range d.Kept[:cap(d.Kept)] {
		c.Kept = append(c.Kept, row[:cap(row)])
	}
	for _, w := range d.Wait[:cap(d.Wait)] {
		c.Wait = append(c.Wait, impl.Write{At: w.At, Row: w.Row[:cap(w.Row)]})
	}
	return c
}

// rowsOf returns all rows of a disk.
func rowsOf(d impl.Disk) [][]int64 {
	all := slices.Clone(d.Kept)
	for _, w := range d.Wait {
		all = append(all, w.Row)
	}
	return all
}

// wipedDisk overwrites all memory of a disk.
func wipedDisk(d impl.Disk) {
	for _, row := range rowsOf(wholeDisk(d)) {
		wiped(row)
	}
	for i := range d.Kept[:cap(d.Kept)] {
		d.Kept[:cap(d.Kept)][i] = []int64{-9}
	}
	for i := range d.Wait[:cap(d.Wait)] {
		d.Wait[:cap(d.Wait)][i] = impl.Write{At: -9, Row: []int64{-9}}
	}
}

// diskCalls are all the functions that return a disk or a row, the ones that do nothing included;
// a row is returned as a disk of one sector.
func diskCalls() map[string]func(d impl.Disk, numbers []int64) impl.Disk {
	wrote := func(at int64) func(impl.Disk, []int64) impl.Disk {
		return func(d impl.Disk, row []int64) impl.Disk {
			next, _ := impl.Wrote(d, at, row)
			return next
		}
	}
	rotted := func(at, i, n int64) func(impl.Disk, []int64) impl.Disk {
		return func(d impl.Disk, _ []int64) impl.Disk {
			next, _ := impl.Rotted(d, at, i, n)
			return next
		}
	}
	read := func(at int64) func(impl.Disk, []int64) impl.Disk {
		return func(d impl.Disk, _ []int64) impl.Disk {
			row, _ := impl.ReadAt(d, at)
			return diskOf(row)
		}
	}
	return map[string]func(impl.Disk, []int64) impl.Disk{
		"Wrote": wrote(0), "Wrote to no sector": wrote(-1), "Wrote behind the last sector": wrote(40),
		"Rotted": rotted(0, 0, 70), "Rotted no number": rotted(0, -1, 70), "Rotted to no number": rotted(0, 0, -1),
		"ReadAt 0": read(0), "ReadAt 1": read(1), "ReadAt 2": read(2), "ReadAt nowhere": read(-1),
		"Synced": func(d impl.Disk, _ []int64) impl.Disk { return impl.Synced(d) },
		"Fallen": impl.Fallen,
		"DiskOk": func(d impl.Disk, _ []int64) impl.Disk { impl.DiskOk(d); return impl.Disk{} },
		"SafeIn": func(d impl.Disk, _ []int64) impl.Disk { impl.SafeIn(d); return impl.Disk{} },
	}
}

// numbersForDisks are passed as a row and as fates.
func numbersForDisks() [][]int64 {
	return [][]int64{
		nil, {0}, {1}, {2}, {2, 2}, {1, 2, 1, 2, 0}, repeated(48, 1), repeated(48, 2), repeated(60, 2), {-1}, {impl.MaxNum + 1},
	}
}

func TestDisksChangeNoArgument(t *testing.T) {
	for name, call := range diskCalls() {
		for _, d := range append(goodDisks(), badDisks()...) {
			for _, list := range numbersForDisks() {
				disk := roomyDisk(d)
				numbers, whole := roomy(list...)
				before := diskText(wholeDisk(disk))
				// What the result shares with an argument would be wiped there as well.
				unchanged(t, name, whole, func() { wipedDisk(call(disk, numbers)) })
				if after := diskText(wholeDisk(disk)); after != before {
					t.Fatalf("%s has changed its argument or shares its memory: %s, before %s", name, after, before)
				}
			}
		}
	}
}

func TestDiskResultsKeepWhatTheyAre(t *testing.T) {
	for name, call := range diskCalls() {
		for _, d := range goodDisks() {
			for _, list := range numbersForDisks() {
				disk := roomyDisk(d)
				numbers, whole := roomy(list...)
				got, want := call(disk, numbers), call(clonedDisk(d), slices.Clone(list))
				wipedDisk(disk)
				wiped(whole)
				equalDisks(t, name+", its arguments wiped", got, want)
			}
		}
	}
}

// wantApart fails the test if two rows of a disk share memory, their spare capacity included.
func wantApart(t *testing.T, what string, d impl.Disk) {
	t.Helper()
	rows := rowsOf(d)
	for k, row := range rows {
		row = row[:cap(row)]
		for i := range row {
			row[i] = int64(k)
		}
	}
	for k, row := range rows {
		row = row[:cap(row)]
		equalInts(t, what+", marked", row, repeated(len(row), int64(k)))
	}
}

func TestRowsOfOneDiskShareNoMemory(t *testing.T) {
	for name, call := range diskCalls() {
		for _, d := range goodDisks() {
			for _, list := range numbersForDisks() {
				wantApart(t, name, call(roomyDisk(d), list))
			}
		}
		// The rows of an argument may share memory; those of the result do not.
		row := []int64{1, 2, 1, 2}
		shared := waiting(diskOf(nil, nil, nil), manyWrites(3, 3)...)
		for i := range 3 {
			shared.Kept[i], shared.Wait[i].Row = row[i:], row[:4-i]
		}
		wantApart(t, name+" of shared rows", call(shared, row))
		equalInts(t, name+", the shared row", row, []int64{1, 2, 1, 2})
	}
	for sectors := range int64(41) {
		wantApart(t, "NewDisk", impl.NewDisk(sectors))
	}
}

func TestNewDisksShareNoMemory(t *testing.T) {
	one, other := impl.NewDisk(40), impl.NewDisk(40)
	wipedDisk(one)
	equalDisks(t, "NewDisk, another one wiped", other, impl.Disk{Kept: make([][]int64, 40)})
	equalDisks(t, "NewDisk, an earlier one wiped", impl.NewDisk(40), other)
}
