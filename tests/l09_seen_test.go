package tests

import (
	"cmp"
	"math"
	"math/rand"
	"slices"
	"strings"
	"testing"

	"loop.example/g00851/impl"
)

// markOf returns a mark.
func markOf(client, seq, index int64) impl.Mark {
	return impl.Mark{Client: client, Seq: seq, Index: index}
}

// marksOf returns the marks with these numbers, three for each of them.
func marksOf(numbers ...int64) []impl.Mark {
	var s []impl.Mark
	for i := 0; i+2 < len(numbers); i += 3 {
		s = append(s, markOf(numbers[i], numbers[i+1], numbers[i+2]))
	}
	return s
}

// asked returns the entry of a request.
func asked(client, seq, index int64) impl.Entry {
	return entryOf(index, 40+index%3, client, seq, 2, 4, 0, 0, 0)
}

// markInts returns the numbers of a mark, field by field.
func markInts(m impl.Mark) []int64 { return []int64{m.Client, m.Seq, m.Index} }

// marksText writes marks with all their numbers; nil and empty tables are written alike.
func marksText(s []impl.Mark) string {
	words := make([]string, len(s))
	for i, m := range s {
		words[i] = textOf(markInts(m))
	}
	return "{" + strings.Join(words, ", ") + "}"
}

// equalMarks fails the test if got and want differ; nil and empty are equivalent.
func equalMarks(t *testing.T, what string, got, want []impl.Mark) {
	t.Helper()
	if !slices.Equal(got, want) {
		t.Errorf("%s: got %s, want %s", what, marksText(got), marksText(want))
	}
}

// isClient, isSeq and isIndex report what the fields of a mark may be, as the document gives it.
func isClient(x int64) bool { return 2 <= x && x <= 5 }
func isSeq(x int64) bool    { return 1 <= x && x <= 2000 }
func isIndex(x int64) bool  { return 1 <= x && x <= 2000 }

// seenOkByHand reports whether a table is valid; each mark is compared with all the earlier ones.
func seenOkByHand(s []impl.Mark) bool {
	for i, m := range s {
		if !isClient(m.Client) || !isSeq(m.Seq) || !isIndex(m.Index) {
			return false
		}
		for _, earlier := range s[:i] {
			if earlier.Client >= m.Client || earlier.Index == m.Index {
				return false
			}
		}
	}
	return true
}

// markByHand returns the mark of that client in a valid table.
func markByHand(s []impl.Mark, client int64) impl.Mark {
	at := slices.IndexFunc(s, func(m impl.Mark) bool { return m.Client == client })
	if at < 0 {
		return impl.Mark{}
	}
	return s[at]
}

// freshByHand reports whether a request is fresh in a valid table: no mark of its client is in its way.
func freshByHand(s []impl.Mark, client, seq int64) bool {
	inTheWay := func(m impl.Mark) bool { return m.Client == client && m.Seq >= seq }
	return isClient(client) && isSeq(seq) && !slices.ContainsFunc(s, inTheWay)
}

// lastSeenByHand returns the greatest Index of a valid table.
func lastSeenByHand(s []impl.Mark) int64 {
	last := int64(0)
	for _, m := range s {
		last = max(last, m.Index)
	}
	return last
}

// overByHand records the entries in a valid table, which is sorted anew after each of them.
func overByHand(s []impl.Mark, list []impl.Entry) ([]impl.Mark, bool) {
	seen := slices.Clone(s)
	for _, e := range list {
		if !entryOkByHand(entryInts(e)) || !freshByHand(seen, e.Client, e.Seq) || e.Index <= lastSeenByHand(seen) {
			return s, false
		}
		seen = slices.DeleteFunc(seen, func(m impl.Mark) bool { return m.Client == e.Client })
		seen = append(seen, markOf(e.Client, e.Seq, e.Index))
		slices.SortFunc(seen, func(a, b impl.Mark) int { return cmp.Compare(a.Client, b.Client) })
	}
	return seen, len(list) <= 2000
}

// everyTable returns the tables of no, one and up to that many of these marks, in any order and also
// repeated.
func everyTable(singles []impl.Mark, many int) [][]impl.Mark {
	tables := [][]impl.Mark{nil}
	for from := 0; many > 0; many-- {
		to := len(tables)
		for _, s := range slices.Clone(tables[from:to]) {
			for _, m := range singles {
				tables = append(tables, append(slices.Clone(s), m))
			}
		}
		from = to
	}
	return tables
}

// goodTables are valid, among them those of no, one, two and four marks, and those whose greatest
// Index is at the first, a middle and the last mark.
func goodTables() [][]impl.Mark {
	good := [][]impl.Mark{
		nil, {}, marksOf(2, 7, 4, 4, 2, 5), marksOf(2, 7, 5, 4, 2, 4), marksOf(3, 4, 3, 5, 1, 2),
		marksOf(2, 1, 1, 3, 1, 2), marksOf(4, 9, 8, 5, 9, 7), marksOf(2, 1, 2000, 5, 2000, 1), marksOf(2, 2000, 1, 5, 1, 2000), marksOf(3, 5, 1999, 4, 5, 2000),
		marksOf(2, 3, 1, 3, 3, 2, 4, 3, 3), marksOf(2, 9, 30, 3, 1, 20, 5, 4, 10), marksOf(2, 1, 8, 4, 1, 9, 5, 1, 7), marksOf(3, 12, 50, 4, 13, 40, 5, 14, 60),
		marksOf(2, 1, 1, 3, 1, 2, 4, 1, 3, 5, 1, 4), marksOf(2, 2000, 2000, 3, 2000, 1999, 4, 2000, 1998, 5, 2000, 1997), marksOf(2, 4, 10, 3, 3, 40, 4, 2, 20, 5, 1, 30),
		marksOf(2, 4, 10, 3, 3, 20, 4, 2, 40, 5, 1, 30), marksOf(2, 4, 40, 3, 3, 10, 4, 2, 30, 5, 1, 20), marksOf(2, 10, 7, 3, 1, 9, 4, 2000, 8, 5, 500, 1),
	}
	for client := int64(2); client <= 5; client++ {
		for _, seq := range []int64{1, 2, 7, 1999, 2000} {
			for _, index := range []int64{1, 2, 9, 1999, 2000} {
				good = append(good, marksOf(client, seq, index))
			}
		}
	}
	return good
}

// badTables are not valid, for one reason each.
func badTables() [][]impl.Mark {
	bad := [][]impl.Mark{
		// clients that are equal and falling
		marksOf(4, 1, 2, 2, 1, 3), marksOf(4, 1, 2, 4, 1, 3), marksOf(4, 1, 2, 4, 2, 3), marksOf(4, 2, 2, 4, 1, 3), marksOf(4, 1, 2, 4, 1, 2), marksOf(5, 1, 1, 4, 1, 2, 3, 1, 3, 2, 1, 4),
		marksOf(2, 1, 1, 4, 1, 2, 3, 1, 3), marksOf(3, 1, 1, 2, 1, 2, 4, 1, 3), marksOf(2, 1, 1, 3, 1, 2, 3, 1, 3, 5, 1, 4), marksOf(2, 1, 1, 2, 1, 2, 3, 1, 3), marksOf(2, 1, 1, 3, 1, 2, 5, 1, 3, 4, 1, 4),
		// clients that do not ask, and those of five marks
		marksOf(0, 1, 1), marksOf(1, 1, 1), marksOf(6, 1, 1), marksOf(1, 1, 1, 2, 1, 2), marksOf(5, 1, 1, 6, 1, 2), marksOf(2, 1, 1, 6, 1, 2, 4, 1, 3), marksOf(2, 1, 1, 1, 1, 2, 4, 1, 3), marksOf(0, 0, 0), marksOf(2, 1, 1, 0, 0, 0),
		marksOf(1, 1, 1, 2, 1, 2, 3, 1, 3, 4, 1, 4, 5, 1, 5), marksOf(2, 1, 1, 3, 1, 2, 4, 1, 3, 5, 1, 4, 6, 1, 5), marksOf(2, 1, 1, 3, 1, 2, 4, 1, 3, 5, 1, 4, 5, 2, 5), marksOf(2, 1, 1, 3, 1, 2, 4, 1, 3, 4, 2, 5, 5, 1, 4),
		// an Index that two marks have
		marksOf(2, 1, 3, 4, 1, 3), marksOf(2, 1, 3, 3, 2, 3, 4, 1, 4), marksOf(2, 1, 4, 3, 2, 3, 4, 1, 3), marksOf(2, 1, 3, 3, 2, 4, 4, 1, 3), marksOf(2, 1, 3, 3, 2, 4, 4, 1, 5, 5, 9, 3), marksOf(2, 1, 5, 3, 2, 3, 4, 1, 6, 5, 9, 3),
		marksOf(2, 1, 2000, 5, 1, 2000), marksOf(2, 1, 1, 3, 1, 1, 4, 1, 1, 5, 1, 1),
	}
	for _, s := range [][]impl.Mark{marksOf(4, 2, 5), marksOf(2, 7, 4, 4, 2, 5), marksOf(2, 4, 10, 3, 3, 40, 4, 2, 20, 5, 1, 30)} {
		for at := range s {
			for _, x := range append(wildNumbers(), 0, 2001) {
				for i := range 3 {
					bad = append(bad, marksWith(s, at, i, x))
				}
			}
		}
	}
	return append(bad, slices.Repeat(marksOf(4, 1, 1), 3000))
}

// marksWith returns the marks with number i of one of them set to x.
func marksWith(s []impl.Mark, at, i int, x int64) []impl.Mark {
	changed := slices.Clone(s)
	changed[at] = marksOf(numberAt(markInts(s[at]), i, x)...)[0]
	return changed
}

// unfitEntries are not valid, for one reason each; their requests are fresh and their indices great,
// as far as these are numbers that they may have.
func unfitEntries() []impl.Entry {
	return []impl.Entry{
		{}, entryOf(1500, -1, 4, 1500, 2, 4, 0, 0, 0), entryOf(1500, lastTime+1, 4, 1500, 2, 4, 0, 0, 0), entryOf(1500, 40, 1, 1500, 2, 4, 0, 0, 0), entryOf(1500, 40, 6, 1500, 2, 4, 0, 0, 0), entryOf(1500, 40, 0, 1500, 2, 4, 0, 0, 0),
		entryOf(2001, 40, 4, 1500, 2, 4, 0, 0, 0), entryOf(1500, 40, 4, 2001, 2, 4, 0, 0, 0), entryOf(1500, 40, 4, 0, 2, 4, 0, 0, 0), entryOf(0, 40, 4, 1500, 2, 4, 0, 0, 0), entryOf(-1, 40, 4, 1500, 2, 4, 0, 0, 0), entryOf(1500, 40, 4, -1, 2, 4, 0, 0, 0),
		entryOf(1500, 40, 4, 1500, 0, 4, 0, 0, 0), entryOf(1500, 40, 4, 1500, 6, 4, 0, 0, 0), entryOf(1500, 40, 4, 1500, 2, 10, 0, 0, 0), entryOf(1500, 40, 4, 1500, 2, 4, 1, 0, 0), entryOf(1500, 40, 4, 1500, 1, 4, 1000, 0, 0), entryOf(1500, 40, 4, 1500, 5, 0, 0, 0, 0),
		entryOf(math.MaxInt64, 40, 4, 1500, 2, 4, 0, 0, 0), entryOf(1500, 40, 4, math.MaxInt64, 2, 4, 0, 0, 0), entryOf(1500, 40, math.MaxInt64, 1500, 2, 4, 0, 0, 0), entryOf(1500, 40, math.MinInt64, 1500, 2, 4, 0, 0, 0), entryOf(1500, math.MinInt64, 4, 1500, 2, 4, 0, 0, 0),
		entryOf(1500+1<<32, 40, 4, 1500, 2, 4, 0, 0, 0), entryOf(1500, 40, 4, 1500+1<<32, 2, 4, 0, 0, 0), entryOf(1500, 40, 4+1<<32, 1500, 2, 4, 0, 0, 0),
	}
}

func TestSeenOk(t *testing.T) {
	for _, s := range goodTables() {
		wantIs(t, "SeenOk of "+marksText(s), impl.SeenOk(s), true)
	}
	for _, s := range badTables() {
		wantIs(t, "SeenOk of "+marksText(s), impl.SeenOk(s), false)
	}
	for _, s := range append(goodTables(), badTables()...) {
		wantIs(t, "the model of "+marksText(s), seenOkByHand(s), impl.SeenOk(s))
	}
}

// Each number of each mark, at its limits, beyond them, and equal to that of another mark.
func TestSeenOkAtItsLimits(t *testing.T) {
	for _, c := range []struct {
		mark [3]int64
		want bool
	}{
		{[3]int64{4, 1, 1}, true}, {[3]int64{4, 2000, 2000}, true}, {[3]int64{2, 1, 1}, true}, {[3]int64{5, 1, 1}, true}, {[3]int64{1, 1, 1}, false}, {[3]int64{6, 1, 1}, false},
		{[3]int64{4, -1, 1}, false}, {[3]int64{4, 0, 1}, false}, {[3]int64{4, 2001, 1}, false}, {[3]int64{4, 1, -1}, false}, {[3]int64{4, 1, 0}, false}, {[3]int64{4, 1, 2001}, false},
	} {
		s := marksOf(c.mark[:]...)
		wantIs(t, "SeenOk of "+marksText(s), impl.SeenOk(s), c.want)
	}
	for _, s := range goodTables() {
		for at := range s {
			for i := range 3 {
				for _, x := range append(someNumbers(), 3, 7, 10, 30, 1998) {
					changed := marksWith(s, at, i, x)
					wantIs(t, "SeenOk of "+marksText(changed), impl.SeenOk(changed), seenOkByHand(changed))
				}
			}
		}
	}
}

// Every table of up to four marks whose numbers are few is valid only if it is by hand.
func TestSeenOkOfEveryShortTable(t *testing.T) {
	var singles, valid []impl.Mark
	for client := int64(1); client <= 6; client++ {
		for index := range int64(3) {
			singles = append(singles, markOf(client, 1-index/2, index), markOf(client, 1, index+1))
			valid = append(valid, markOf(client, 3, index+1))
		}
	}
	for _, s := range append(everyTable(singles, 3), everyTable(valid, 4)...) {
		if impl.SeenOk(s) != seenOkByHand(s) {
			t.Fatalf("SeenOk of %s is not %v", marksText(s), seenOkByHand(s))
		}
	}
}

// wantMark fails the test if MarkOf does not return the mark wanted.
func wantMark(t *testing.T, s []impl.Mark, client int64, want impl.Mark) {
	t.Helper()
	equalInts(t, "MarkOf "+textOf([]int64{client})+" of "+marksText(s), markInts(impl.MarkOf(s, client)), markInts(want))
}

func TestMarkOf(t *testing.T) {
	s := marksOf(2, 7, 4, 4, 2, 5)
	wantMark(t, s, 2, markOf(2, 7, 4))
	wantMark(t, s, 4, markOf(4, 2, 5))
	for _, client := range append(wildNumbers(), 0, 1, 3, 5, 6, 7) {
		wantMark(t, s, client, impl.Mark{})
		wantMark(t, nil, client, impl.Mark{})
	}
	full := marksOf(2, 4, 10, 3, 3, 40, 4, 2, 20, 5, 1, 30)
	for i, m := range full {
		wantMark(t, full, int64(i)+2, m)
	}
	for _, s := range goodTables() {
		for _, client := range someNumbers() {
			wantMark(t, s, client, markByHand(s, client))
		}
	}
}

// wantFresh fails the test if FreshIn does not report what is wanted.
func wantFresh(t *testing.T, s []impl.Mark, client, seq int64, want bool) {
	t.Helper()
	wantIs(t, "FreshIn "+textOf([]int64{client, seq})+" of "+marksText(s), impl.FreshIn(s, client, seq), want)
}

// What counts as fresh is a Seq above that of the client's own mark, however far above.
func TestFreshIn(t *testing.T) {
	s := marksOf(2, 7, 4, 4, 2, 5)
	for _, c := range []struct {
		client, seq int64
		want        bool
	}{
		{4, 1, false}, {4, 2, false}, {4, 3, true}, {4, 4, true}, {4, 7, true}, {4, 1999, true}, {4, 2000, true}, {4, 2001, false}, {4, 0, false}, {4, -1, false},
		{2, 1, false}, {2, 2, false}, {2, 3, false}, {2, 6, false}, {2, 7, false}, {2, 8, true}, {2, 2000, true}, {2, 2001, false}, {2, 0, false},
		// without a mark
		{3, 1, true}, {3, 2, true}, {3, 2000, true}, {3, 2001, false}, {3, 0, false}, {3, -1, false}, {5, 1, true}, {5, 0, false}, {5, 2000, true}, {5, 2001, false},
		// clients that do not ask
		{1, 1, false}, {1, 8, false}, {0, 1, false}, {0, 3, false}, {6, 1, false}, {6, 3, false}, {6, 2000, false}, {-4, 3, false},
	} {
		wantFresh(t, s, c.client, c.seq, c.want)
	}
	// after the last Seq nothing is fresh, and after the first one all others are
	wantFresh(t, marksOf(3, 2000, 1), 3, 2000, false)
	wantFresh(t, marksOf(3, 2000, 1), 3, 2001, false)
	wantFresh(t, marksOf(3, 1999, 1), 3, 2000, true)
	wantFresh(t, marksOf(3, 1, 1), 3, 1, false)
	wantFresh(t, marksOf(3, 1, 1), 3, 2, true)
	wantFresh(t, nil, 3, 1, true)
	wantFresh(t, nil, 3, 2000, true)
	wantFresh(t, nil, 3, 0, false)
	wantFresh(t, nil, 6, 1, false)
	wantFresh(t, nil, 1, 1, false)
	// the Index of a mark does not matter
	wantFresh(t, marksOf(3, 1, 2000), 3, 2, true)
	wantFresh(t, marksOf(3, 2, 1), 3, 2, false)
}

// Each client, and numbers that are none, with each Seq in and around each table.
func TestFreshInEverywhere(t *testing.T) {
	for _, s := range goodTables() {
		seqs := append(someNumbers(), 1998)
		for _, m := range s {
			seqs = append(seqs, m.Seq-1, m.Seq, m.Seq+1, m.Index)
		}
		for _, client := range append(wildNumbers(), 0, 1, 2, 3, 4, 5, 6, 7) {
			for _, seq := range seqs {
				wantFresh(t, s, client, seq, freshByHand(s, client, seq))
			}
		}
	}
}

// wantOver fails the test if SeenOver, or Marked for one entry, does not return the marks wanted.
func wantOver(t *testing.T, s []impl.Mark, list []impl.Entry, want []impl.Mark, is bool) {
	t.Helper()
	got, ok := impl.SeenOver(s, list)
	if ok != is || !slices.Equal(got, want) {
		t.Errorf("SeenOver of %s with %s: got %s %v, want %s %v", marksText(s), entriesText(list), marksText(got), ok, marksText(want), is)
	}
	if len(list) != 1 {
		return
	}
	got, ok = impl.Marked(s, list[0])
	if ok != is || !slices.Equal(got, want) {
		t.Errorf("Marked of %s with %s: got %s %v, want %s %v", marksText(s), entriesText(list), marksText(got), ok, marksText(want), is)
	}
}

// wantMarked fails the test if an entry is not recorded as wanted.
func wantMarked(t *testing.T, s []impl.Mark, e impl.Entry, want []impl.Mark, is bool) {
	t.Helper()
	wantOver(t, s, []impl.Entry{e}, want, is)
}

func TestMarkedByHand(t *testing.T) {
	s := marksOf(2, 7, 4, 4, 2, 5)
	// the mark of a client that has one, and of one that has none: between, behind and before the others
	wantMarked(t, s, asked(4, 3, 6), marksOf(2, 7, 4, 4, 3, 6), true)
	wantMarked(t, s, asked(2, 8, 6), marksOf(2, 8, 6, 4, 2, 5), true)
	wantMarked(t, s, asked(3, 7, 9), marksOf(2, 7, 4, 3, 7, 9, 4, 2, 5), true)
	wantMarked(t, s, asked(5, 1, 6), marksOf(2, 7, 4, 4, 2, 5, 5, 1, 6), true)
	wantMarked(t, marksOf(3, 1, 8), asked(2, 1, 9), marksOf(2, 1, 9, 3, 1, 8), true)
	wantMarked(t, marksOf(2, 1, 1, 3, 1, 2, 5, 1, 3), asked(4, 1, 4), marksOf(2, 1, 1, 3, 1, 2, 4, 1, 4, 5, 1, 3), true)
	wantMarked(t, nil, asked(4, 1, 1), marksOf(4, 1, 1), true)
	wantMarked(t, []impl.Mark{}, asked(4, 2000, 2000), marksOf(4, 2000, 2000), true)
	// far above the mark
	wantMarked(t, s, asked(4, 2000, 2000), marksOf(2, 7, 4, 4, 2000, 2000), true)
	wantMarked(t, s, asked(2, 2000, 6), marksOf(2, 2000, 6, 4, 2, 5), true)
	// a Seq that is equal and lower
	wantMarked(t, s, asked(4, 2, 6), s, false)
	wantMarked(t, s, asked(4, 1, 6), s, false)
	wantMarked(t, s, asked(2, 7, 9), s, false)
	wantMarked(t, s, asked(2, 3, 9), s, false)
	// an Index at the greatest one and below it, also that of the client's own mark
	wantMarked(t, s, asked(5, 1, 5), s, false)
	wantMarked(t, s, asked(5, 1, 4), s, false)
	wantMarked(t, s, asked(5, 1, 1), s, false)
	wantMarked(t, s, asked(4, 3, 5), s, false)
	wantMarked(t, s, asked(2, 8, 5), s, false)
	wantMarked(t, s, asked(2, 8, 4), s, false)
	wantMarked(t, s, asked(2, 8, 3), s, false)
	// all four marks
	full := marksOf(2, 4, 10, 3, 3, 40, 4, 2, 20, 5, 1, 30)
	wantMarked(t, full, asked(2, 5, 41), marksOf(2, 5, 41, 3, 3, 40, 4, 2, 20, 5, 1, 30), true)
	wantMarked(t, full, asked(3, 5, 41), marksOf(2, 4, 10, 3, 5, 41, 4, 2, 20, 5, 1, 30), true)
	wantMarked(t, full, asked(4, 3, 2000), marksOf(2, 4, 10, 3, 3, 40, 4, 3, 2000, 5, 1, 30), true)
	wantMarked(t, full, asked(5, 2, 41), marksOf(2, 4, 10, 3, 3, 40, 4, 2, 20, 5, 2, 41), true)
	wantMarked(t, full, asked(5, 2, 40), full, false)
	wantMarked(t, full, asked(5, 2, 35), full, false)
	// the last Index and the last Seq
	wantMarked(t, marksOf(2, 1, 2000), asked(3, 1, 2000), marksOf(2, 1, 2000), false)
	wantMarked(t, marksOf(2, 1, 2000), asked(3, 1, 2001), marksOf(2, 1, 2000), false)
	wantMarked(t, marksOf(2, 1, 1999), asked(3, 1, 2000), marksOf(2, 1, 1999, 3, 1, 2000), true)
	wantMarked(t, marksOf(2, 2000, 9), asked(2, 2000, 10), marksOf(2, 2000, 9), false)
	wantMarked(t, marksOf(2, 2000, 9), asked(2, 2001, 10), marksOf(2, 2000, 9), false)
	// the operation and the Time do not matter
	wantMarked(t, s, entryOf(6, 0, 4, 3, 3, 3, 40, 9, 999), marksOf(2, 7, 4, 4, 3, 6), true)
	wantMarked(t, s, entryOf(6, lastTime, 4, 3, 5, 1000, 0, 0, 0), marksOf(2, 7, 4, 4, 3, 6), true)
	for _, e := range unfitEntries() {
		for _, s := range [][]impl.Mark{nil, s, marksOf(3, 1, 8)} {
			wantMarked(t, s, e, s, false)
		}
	}
}

// Every client, and numbers that are none, with each Seq and each Index in and around each table.
func TestMarkedEverywhere(t *testing.T) {
	for _, s := range goodTables() {
		numbers := []int64{math.MinInt64, -1, 0, 1, 2, 1000, 1999, 2000, 2001, 1<<32 + 1, math.MaxInt64}
		seqs, indices := slices.Clone(numbers), slices.Clone(numbers)
		for _, m := range s {
			seqs = append(seqs, m.Seq-1, m.Seq, m.Seq+1)
			indices = append(indices, m.Index-1, m.Index, m.Index+1)
		}
		for _, client := range []int64{math.MinInt64, 0, 1, 2, 3, 4, 5, 6, 1<<32 + 4, math.MaxInt64} {
			for _, seq := range seqs {
				for _, index := range indices {
					list := []impl.Entry{asked(client, seq, index)}
					want, is := overByHand(s, list)
					wantOver(t, s, list, want, is)
				}
			}
		}
	}
}

func TestSeenOverByHand(t *testing.T) {
	s := marksOf(2, 7, 4, 4, 2, 5)
	wantOver(t, nil, nil, nil, true)
	wantOver(t, s, nil, s, true)
	wantOver(t, s, []impl.Entry{}, s, true)
	wantOver(t, nil, []impl.Entry{asked(4, 1, 3), asked(2, 7, 4), asked(4, 2, 5)}, s, true)
	wantOver(t, nil, []impl.Entry{asked(4, 1, 3), asked(4, 2, 4), asked(4, 9, 5)}, marksOf(4, 9, 5), true)
	wantOver(t, nil, []impl.Entry{asked(5, 1, 1), asked(4, 1, 2), asked(3, 1, 3), asked(2, 1, 4)}, marksOf(2, 1, 4, 3, 1, 3, 4, 1, 2, 5, 1, 1), true)
	wantOver(t, s, []impl.Entry{asked(3, 1, 6), asked(4, 3, 7), asked(3, 2, 8), asked(5, 1, 9)}, marksOf(2, 7, 4, 3, 2, 8, 4, 3, 7, 5, 1, 9), true)
	// indices may be left out, and times may decrease
	wantOver(t, s, []impl.Entry{asked(3, 1, 6), asked(3, 5, 60), asked(3, 60, 2000)}, marksOf(2, 7, 4, 3, 60, 2000, 4, 2, 5), true)
	wantOver(t, s, []impl.Entry{entryOf(6, 90, 3, 1, 2, 4, 0, 0, 0), entryOf(7, 0, 3, 2, 2, 4, 0, 0, 0)}, marksOf(2, 7, 4, 3, 2, 7, 4, 2, 5), true)
	// one that cannot be recorded
	wantOver(t, s, []impl.Entry{asked(4, 1, 3), asked(5, 1, 6)}, s, false)
	wantOver(t, s, []impl.Entry{asked(4, 3, 6), asked(4, 3, 7)}, s, false)
	wantOver(t, s, []impl.Entry{asked(4, 3, 6), asked(5, 1, 6)}, s, false)
	wantOver(t, s, []impl.Entry{asked(4, 3, 7), asked(5, 1, 6)}, s, false)
	wantOver(t, s, []impl.Entry{asked(4, 4, 6), asked(4, 3, 7)}, s, false)
	wantOver(t, s, []impl.Entry{asked(3, 1, 6), asked(4, 2, 7), asked(5, 1, 8)}, s, false)
	wantOver(t, s, []impl.Entry{asked(3, 1, 6), asked(4, 3, 7), {}}, s, false)
	wantOver(t, nil, []impl.Entry{asked(3, 1, 1), asked(3, 1, 2)}, nil, false)
	wantOver(t, nil, []impl.Entry{{}}, nil, false)
}

// requests returns entries of these clients in turn, whose Seq and Index are above those of a table.
func requests(s []impl.Mark, many int, clients ...int64) []impl.Entry {
	var list []impl.Entry
	last, seqs := lastSeenByHand(s), map[int64]int64{}
	for _, m := range s {
		seqs[m.Client] = m.Seq
	}
	for i := range many {
		client := clients[i%len(clients)]
		seqs[client]++
		list = append(list, asked(client, seqs[client], last+int64(i)+1))
	}
	return list
}

// faults are changes after which an entry of requests cannot be recorded, at any place.
func faults() []func(e *impl.Entry) {
	return []func(e *impl.Entry){
		func(e *impl.Entry) { e.Index-- }, func(e *impl.Entry) { e.Index = 0 }, func(e *impl.Entry) { e.Index = 2001 }, func(e *impl.Entry) { e.Index = math.MinInt64 }, func(e *impl.Entry) { e.Index = math.MaxInt64 },
		func(e *impl.Entry) { e.Seq-- }, func(e *impl.Entry) { e.Seq = 0 }, func(e *impl.Entry) { e.Seq = 2001 }, func(e *impl.Entry) { e.Seq = math.MinInt64 }, func(e *impl.Entry) { e.Seq = math.MaxInt64 },
		func(e *impl.Entry) { e.Client = 1 }, func(e *impl.Entry) { e.Client = 6 }, func(e *impl.Entry) { e.Client = math.MaxInt64 }, func(e *impl.Entry) { e.Time = -1 }, func(e *impl.Entry) { e.Op.Kind = 0 }, func(e *impl.Entry) { *e = impl.Entry{} },
	}
}

// Lists of no, one and several entries, of one client and of all, also with one of them that cannot
// be recorded at each of three places.
func TestSeenOverLists(t *testing.T) {
	for _, s := range [][]impl.Mark{nil, marksOf(2, 7, 4, 4, 2, 5), marksOf(3, 1, 8), marksOf(2, 4, 10, 3, 3, 40, 4, 2, 20, 5, 1, 30), marksOf(5, 1900, 7)} {
		for _, clients := range [][]int64{{2}, {3}, {4}, {5}, {4, 2}, {2, 3, 4, 5}, {5, 4, 3, 2}, {3, 3, 5}} {
			for _, many := range []int{0, 1, 2, 3, 4, 5, 9, 20} {
				list := requests(s, many, clients...)
				want, is := overByHand(s, list)
				wantIs(t, "the entries of the model", is, true)
				wantOver(t, s, list, want, true)
				for _, at := range []int{0, many / 2, many - 1} {
					for _, change := range faults() {
						if many > 0 {
							wantOver(t, s, entriesWith(list, at, change), s, false)
						}
					}
				}
			}
		}
	}
}

// Up to MaxIndex entries can be recorded, and with one more none are.
func TestSeenOverLongLists(t *testing.T) {
	wantOver(t, nil, requests(nil, 2000, 4), marksOf(4, 2000, 2000), true)
	wantOver(t, nil, requests(nil, 1999, 4), marksOf(4, 1999, 1999), true)
	wantOver(t, nil, requests(nil, 2000, 2, 3, 4, 5), marksOf(2, 500, 1997, 3, 500, 1998, 4, 500, 1999, 5, 500, 2000), true)
	wantOver(t, marksOf(3, 9, 1), requests(nil, 2000, 4)[1:], marksOf(3, 9, 1, 4, 2000, 2000), true)
	full := marksOf(2, 7, 4, 4, 2, 5)
	for _, many := range []int{2001, 2002, 5000} {
		for _, clients := range [][]int64{{4}, {2, 3, 4, 5}} {
			list := requests(nil, many, clients...)
			wantOver(t, nil, list, nil, false)
			wantOver(t, full, list, full, false)
			// all of them valid, as no Index is beyond MaxIndex
			for i := 2000; i < many; i++ {
				list[i] = asked(5, 2000, 2000)
			}
			wantOver(t, nil, list, nil, false)
		}
	}
}

// Every list of up to three entries whose numbers are few, in each of some tables.
func TestSeenOverEveryShortList(t *testing.T) {
	var singles []impl.Entry
	for _, client := range []int64{2, 4} {
		for seq := int64(1); seq <= 3; seq++ {
			for index := int64(1); index <= 4; index++ {
				singles = append(singles, asked(client, seq, index))
			}
		}
	}
	recorded := 0
	for _, s := range [][]impl.Mark{nil, marksOf(2, 1, 1), marksOf(4, 2, 1), marksOf(3, 1, 1), marksOf(2, 1, 2, 4, 1, 1)} {
		for _, one := range singles {
			for _, two := range singles {
				for _, three := range singles {
					list := []impl.Entry{one, two, three}
					want, is := overByHand(s, list)
					wantOver(t, s, list, want, is)
					if is {
						recorded++
					}
				}
			}
		}
		if t.Failed() {
			return
		}
	}
	if recorded < 50 {
		t.Errorf("only %d lists could be recorded", recorded)
	}
}

// Recording all entries at once is recording them in two parts, and recording them one by one.
func TestSeenOverInParts(t *testing.T) {
	for _, s := range goodTables() {
		for _, clients := range [][]int64{{2}, {4, 2}, {2, 3, 4, 5}, {5, 3, 4, 2, 2}} {
			list := requests(s, 12, clients...)
			once, is := impl.SeenOver(s, list)
			if !is {
				// the table leaves no room for all of them
				_, is = overByHand(s, list)
				wantIs(t, "SeenOver of "+marksText(s), is, false)
				continue
			}
			for many := range 13 {
				first, is := impl.SeenOver(s, list[:many])
				wantIs(t, "the first part", is, true)
				wantOver(t, first, list[many:], once, true)
			}
			seen := s
			for _, e := range list {
				seen, is = impl.Marked(seen, e)
				wantIs(t, "Marked", is, true)
			}
			equalMarks(t, "one by one", seen, once)
			for i, e := range list {
				// recording it again, or an earlier one after it, is not possible
				wantMarked(t, once, e, once, false)
				wantOver(t, s, append(slices.Clone(list), list[i]), s, false)
			}
		}
	}
}

func TestLastSeen(t *testing.T) {
	for _, c := range []struct {
		s    []impl.Mark
		want int64
	}{
		{nil, 0}, {[]impl.Mark{}, 0}, {marksOf(4, 2, 5), 5}, {marksOf(4, 5, 2), 2}, {marksOf(4, 2000, 1), 1}, {marksOf(4, 1, 2000), 2000},
		{marksOf(2, 7, 4, 4, 2, 5), 5}, {marksOf(2, 7, 5, 4, 2, 4), 5}, {marksOf(2, 1, 8, 4, 1, 9, 5, 1, 7), 9}, {marksOf(2, 1, 9, 4, 1, 8, 5, 1, 7), 9}, {marksOf(2, 1, 7, 4, 1, 8, 5, 1, 9), 9},
		{marksOf(2, 1, 40, 3, 1, 10, 4, 1, 20, 5, 1, 30), 40}, {marksOf(2, 1, 10, 3, 1, 40, 4, 1, 20, 5, 1, 30), 40}, {marksOf(2, 1, 10, 3, 1, 20, 4, 1, 40, 5, 1, 30), 40}, {marksOf(2, 1, 10, 3, 1, 20, 4, 1, 30, 5, 1, 40), 40},
		// not valid
		{marksOf(4, 1, 2, 2, 1, 3), 0}, {marksOf(2, 1, 3, 4, 1, 3), 0}, {marksOf(1, 1, 3), 0}, {marksOf(4, 0, 3), 0}, {marksOf(4, 1, 2001), 0}, {marksOf(2, 1, 3, 4, 1, 2001), 0},
	} {
		equalInts(t, "LastSeen of "+marksText(c.s), []int64{impl.LastSeen(c.s)}, []int64{c.want})
	}
	for _, s := range goodTables() {
		equalInts(t, "LastSeen of "+marksText(s), []int64{impl.LastSeen(s)}, []int64{lastSeenByHand(s)})
	}
}

// Every function of a table that is not valid returns zero values, whatever its other arguments are.
func TestTablesThatAreNotValid(t *testing.T) {
	for _, s := range badTables() {
		equalInts(t, "LastSeen of "+marksText(s), []int64{impl.LastSeen(s)}, []int64{0})
		for _, client := range []int64{math.MinInt64, -1, 0, 1, 2, 3, 4, 5, 6, math.MaxInt64, s[0].Client, s[len(s)-1].Client} {
			wantMark(t, s, client, impl.Mark{})
			for _, seq := range []int64{math.MinInt64, -1, 0, 1, 2, 3, 8, 2000, 2001, math.MaxInt64, s[0].Seq + 1} {
				wantFresh(t, s, client, seq, false)
				wantMarked(t, s, asked(client, seq, 1500), nil, false)
				wantMarked(t, s, asked(client, seq, s[0].Index), nil, false)
			}
		}
		for _, list := range [][]impl.Entry{nil, {}, {{}}, requests(nil, 1, 4), requests(nil, 4, 2, 3, 4, 5), {asked(3, 1999, 1999), asked(3, 2000, 2000)}, requests(nil, 2001, 4)} {
			wantOver(t, s, list, nil, false)
		}
		for _, e := range unfitEntries() {
			wantMarked(t, s, e, nil, false)
		}
	}
}

// wantSameSeen fails the test if two tables are not found equal, or not, in either order.
func wantSameSeen(t *testing.T, a, b []impl.Mark, want bool) {
	t.Helper()
	what := "SameSeen of " + marksText(a) + " and " + marksText(b)
	wantIs(t, what, impl.SameSeen(a, b), want)
	wantIs(t, what+", exchanged", impl.SameSeen(b, a), want)
}

func TestSameSeen(t *testing.T) {
	tables := append(goodTables(), badTables()...)
	texts := make([]string, len(tables))
	for i, s := range tables {
		texts[i] = marksText(s)
		wantSameSeen(t, s, s, true)
		wantSameSeen(t, s, slices.Clone(s), true)
		wantSameSeen(t, s, append(slices.Clone(s), markOf(5, 2000, 1300)), false)
		wantSameSeen(t, s, append(slices.Clone(s), impl.Mark{}), false)
		wantSameSeen(t, s, append([]impl.Mark{{}}, s...), false)
		for at := range s[:min(4, len(s))] {
			for n, x := range markInts(s[at]) {
				wantSameSeen(t, s, marksWith(s, at, n, x+1), false)
				wantSameSeen(t, s, marksWith(s, at, n, x^math.MinInt64), false)
			}
			wantSameSeen(t, s, slices.Delete(slices.Clone(s), at, at+1), false)
		}
	}
	for i, a := range tables {
		for j, b := range tables {
			if impl.SameSeen(a, b) != (texts[i] == texts[j]) {
				t.Fatalf("SameSeen of %s and %s", texts[i], texts[j])
			}
		}
	}
	wantSameSeen(t, nil, []impl.Mark{}, true)
	// the same marks in another order, and the last one different in a long table
	wantSameSeen(t, marksOf(2, 7, 4, 4, 2, 5), marksOf(4, 2, 5, 2, 7, 4), false)
	long := slices.Repeat(marksOf(4, 1, 1), 3000)
	wantSameSeen(t, long, marksWith(long, 2999, 2, 2), false)
	wantSameSeen(t, long, long[:2999], false)
}

// wantSeen fails the test if the functions of a table do not agree with the requests that were
// recorded in it, in order.
func wantSeen(t *testing.T, s []impl.Mark, recorded []impl.Entry) {
	t.Helper()
	wantIs(t, "SeenOk of "+marksText(s), impl.SeenOk(s), true)
	lastOf := map[int64]impl.Mark{}
	index := int64(0)
	for _, e := range recorded {
		lastOf[e.Client] = markOf(e.Client, e.Seq, e.Index)
		index = e.Index
	}
	equalInts(t, "the number of marks and LastSeen", []int64{int64(len(s)), impl.LastSeen(s)}, []int64{int64(len(lastOf)), index})
	for client := range int64(8) {
		wantMark(t, s, client, lastOf[client])
	}
	for _, e := range recorded {
		// Promise 9: it, and what is before the last one, is not fresh; what is behind that one is.
		last := lastOf[e.Client].Seq
		for _, seq := range []int64{1, e.Seq - 1, e.Seq, last - 1, last} {
			wantFresh(t, s, e.Client, seq, false)
			wantMarked(t, s, asked(e.Client, seq, min(index+1, 2000)), s, false)
		}
		wantFresh(t, s, e.Client, last+1, last < 2000)
	}
}

// Promise 9: in random plays a request that is not fresh is the recorded one or an earlier one, and
// every mark is the last request of its client.
func TestSeenAgainstRecordedRequests(t *testing.T) {
	total := 0
	for seed := range int64(60) {
		r := rand.New(rand.NewSource(seed))
		var s []impl.Mark
		var recorded []impl.Entry
		for range 60 {
			list := randomRequests(r, s)
			want, is := overByHand(s, list)
			wantOver(t, s, list, want, is)
			if is {
				recorded = append(recorded, list...)
			}
			s, _ = impl.SeenOver(s, list)
			wantSeen(t, s, recorded)
			if t.Failed() {
				t.Fatalf("seed %d", seed)
			}
		}
		total += len(recorded)
	}
	if total < 3000 {
		t.Errorf("only %d requests were recorded", total)
	}
}

// randomRequests returns a few entries that can be recorded in a valid table, or nearly so.
func randomRequests(r *rand.Rand, s []impl.Mark) []impl.Entry {
	seen, list := slices.Clone(s), []impl.Entry{}
	for range r.Intn(4) {
		client := 2 + r.Int63n(4)
		seq, index := markByHand(seen, client).Seq+1+r.Int63n(3), lastSeenByHand(seen)+1+r.Int63n(3)
		e := entryOf(append([]int64{index, r.Int63n(lastTime), client, seq}, randomEntry(r)[4:]...)...)
		if r.Intn(8) == 0 {
			numbers := entryInts(e)
			numbers[r.Intn(9)] -= 1 + r.Int63n(4)
			e = entryOf(numbers...)
		}
		list = append(list, e)
		seen, _ = overByHand(seen, []impl.Entry{e})
	}
	return list
}

// A request that was recorded stays known while requests of the other clients are recorded, and one
// that is lower than it is never fresh either.
func TestRecordedRequestsStayKnown(t *testing.T) {
	for client := int64(2); client <= 5; client++ {
		for _, seq := range []int64{1, 2, 7, 1000, 2000} {
			s, is := impl.Marked(nil, asked(client, seq, 1))
			wantIs(t, "Marked", is, true)
			for index := int64(2); index <= 40; index++ {
				other := 2 + (client-2+1+index%3)%4
				s, is = impl.Marked(s, asked(other, index, index))
				wantIs(t, "Marked for another client", is, true)
				wantMark(t, s, client, markOf(client, seq, 1))
				for lower := int64(-1); lower <= seq; lower++ {
					wantFresh(t, s, client, lower, false)
				}
				wantFresh(t, s, client, seq+1, seq < 2000)
			}
		}
	}
}

// roomyMarks returns marks with spare capacity that is in use elsewhere, and the whole array.
func roomyMarks(s []impl.Mark) ([]impl.Mark, []impl.Mark) {
	whole := append(slices.Clone(s), marksOf(5, 91, 92, 4, 93, 94, 3, 95, 96)...)
	return whole[:len(s)], whole
}

// wipedMarks overwrites marks and their spare capacity.
func wipedMarks(s []impl.Mark) {
	s = s[:cap(s)]
	for i := range s {
		s[i] = markOf(-9, -9, -9)
	}
}

// seenCalls are the functions of a table, with a list and a number that they are called with. They
// return the marks that the function does.
func seenCalls() map[string]func(s []impl.Mark, list []impl.Entry, x int64) []impl.Mark {
	return map[string]func(s []impl.Mark, list []impl.Entry, x int64) []impl.Mark{
		"SeenOk":   func(s []impl.Mark, _ []impl.Entry, _ int64) []impl.Mark { impl.SeenOk(s); return nil },
		"MarkOf":   func(s []impl.Mark, _ []impl.Entry, x int64) []impl.Mark { return []impl.Mark{impl.MarkOf(s, x)} },
		"FreshIn":  func(s []impl.Mark, _ []impl.Entry, x int64) []impl.Mark { impl.FreshIn(s, x, x); return nil },
		"LastSeen": func(s []impl.Mark, _ []impl.Entry, _ int64) []impl.Mark { impl.LastSeen(s); return nil },
		"Marked": func(s []impl.Mark, list []impl.Entry, x int64) []impl.Mark {
			got, _ := impl.Marked(s, append(slices.Clone(list), asked(x, x, x))[0])
			return got
		},
		"SeenOver": func(s []impl.Mark, list []impl.Entry, _ int64) []impl.Mark {
			got, _ := impl.SeenOver(s, list)
			return got
		},
		"SameSeen": func(s []impl.Mark, _ []impl.Entry, x int64) []impl.Mark {
			impl.SameSeen(s, marksOf(2, 7, 4, 4, 2, x))
			impl.SameSeen(marksOf(2, 7, 4, 4, 2, x), s)
			impl.SameSeen(s, s)
			return nil
		},
	}
}

// wantSeenApart fails the test if a call changes an argument, its spare capacity included, or
// returns memory that is the argument's or that of another result.
func wantSeenApart(t *testing.T, what string, call func(s []impl.Mark, list []impl.Entry, x int64) []impl.Mark, s []impl.Mark, list []impl.Entry, x int64) {
	t.Helper()
	marks, whole := roomyMarks(s)
	more, all := roomyEntries(list)
	before, beforeAll := slices.Clone(whole), slices.Clone(all)
	one, other, third := call(marks, more, x), call(marks, more, x), call(marks, more, x)
	equalMarks(t, what+" has changed its table", whole, before)
	equalEntries(t, what+" has changed its list", all, beforeAll)
	want := slices.Clone(one)
	wipedMarks(one)
	equalMarks(t, what+" shares the memory of its table", whole, before)
	equalMarks(t, what+", an earlier result wiped", other, want)
	wipedMarks(whole)
	wipedEntries(all)
	equalMarks(t, what+", its arguments wiped", other, want)
	equalMarks(t, what+", its arguments wiped", third, want)
}

func TestTablesChangeNoArgument(t *testing.T) {
	for name, call := range seenCalls() {
		for _, s := range append(goodTables(), badTables()...) {
			lists := [][]impl.Entry{nil, {{}}, {asked(3, 2000, 2000)}, {asked(5, 1, 1)}, {asked(2, 1999, 1999), asked(2, 2000, 2000)}, {asked(4, 1998, 1998), asked(2, 1999, 1999), asked(2, 1999, 2000)}}
			if seenOkByHand(s) {
				lists = append(lists, requests(s, 5, 4, 2, 3), requests(s, 1, 2), requests(s, 4, 5, 4, 3, 2))
			}
			for _, list := range lists {
				for _, x := range []int64{0, 2, 4, 5, 2000} {
					wantSeenApart(t, name+" of "+marksText(s), call, s, list, x)
				}
			}
		}
		if t.Failed() {
			return
		}
	}
}

// Of the empty tables no result shares memory with another one, whatever is appended to it.
func TestEmptyTablesAreApart(t *testing.T) {
	whole := marksOf(2, 7, 4, 4, 2, 5)
	before := slices.Clone(whole)
	for _, list := range [][]impl.Entry{nil, {{}}, requests(nil, 2, 4, 4)[1:]} {
		one, _ := impl.SeenOver(whole[:0], list)
		other, _ := impl.SeenOver(whole[:0], list)
		one = append(one, markOf(5, 1, 1))
		other = append(other, markOf(3, 1, 1))
		equalMarks(t, "the table", whole, before)
		equalInts(t, "the last marks", []int64{one[len(one)-1].Client, other[len(other)-1].Client}, []int64{5, 3})
	}
}
