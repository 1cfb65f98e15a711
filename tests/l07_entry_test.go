package tests

import (
	"math"
	"math/rand"
	"slices"
	"strings"
	"testing"

	"loop.example/g00851/impl"
)

// span is the lowest and the highest number that a field may have, as the document gives them.
type span [2]int64

// opSpans are the spans of A, B, C and D for each kind; a field that the kind does not name is 0.
func opSpans() map[int64][4]span {
	return map[int64][4]span{
		1: {{0, 9}, {0, 999}},
		2: {{0, 9}},
		3: {{1, 20}, {0, 1000000}, {0, 9}, {0, 999}},
		4: {{1, 20}, {0, 1000}},
		5: {{1, 1000}},
	}
}

// stampSpans are the spans of Index, Time, Client and Seq.
func stampSpans() [4]span { return [4]span{{1, 2000}, {0, 1000000}, {2, 5}, {1, 2000}} }

// within reports whether each number is in its span.
func within(numbers []int64, spans [4]span) bool {
	for i, s := range spans {
		if numbers[i] < s[0] || numbers[i] > s[1] {
			return false
		}
	}
	return len(numbers) == 4
}

// opOkByHand reports whether the numbers Kind, A, B, C, D are those of a valid operation.
func opOkByHand(numbers []int64) bool {
	spans, is := opSpans()[numbers[0]]
	return is && within(numbers[1:], spans)
}

// entryOkByHand reports whether the numbers Index, Time, Client, Seq, Kind, A, B, C, D are those of
// a valid entry.
func entryOkByHand(numbers []int64) bool {
	return within(numbers[:4], stampSpans()) && opOkByHand(numbers[4:])
}

// opOf returns the operation with these five numbers.
func opOf(numbers ...int64) impl.Op {
	return impl.Op{Kind: numbers[0], A: numbers[1], B: numbers[2], C: numbers[3], D: numbers[4]}
}

// entryOf returns the entry with these nine numbers.
func entryOf(numbers ...int64) impl.Entry {
	return impl.Entry{Index: numbers[0], Time: numbers[1], Client: numbers[2], Seq: numbers[3], Op: opOf(numbers[4:]...)}
}

// opInts returns the numbers of an operation, field by field.
func opInts(o impl.Op) []int64 { return []int64{o.Kind, o.A, o.B, o.C, o.D} }

// entryInts returns the numbers of an entry, field by field.
func entryInts(e impl.Entry) []int64 {
	return append([]int64{e.Index, e.Time, e.Client, e.Seq}, opInts(e.Op)...)
}

// entriesText writes entries with all their numbers; nil and empty lists are written alike.
func entriesText(list []impl.Entry) string {
	words := make([]string, len(list))
	for i, e := range list {
		words[i] = textOf(entryInts(e))
	}
	return "[" + strings.Join(words, ", ") + "]"
}

// equalEntries fails the test if got and want differ; nil and empty are equivalent.
func equalEntries(t *testing.T, what string, got, want []impl.Entry) {
	t.Helper()
	if !slices.Equal(got, want) {
		t.Errorf("%s: got %s, want %s", what, entriesText(got), entriesText(want))
	}
}

// numberAt returns the numbers with the one at index i set to x.
func numberAt(numbers []int64, i int, x int64) []int64 {
	changed := slices.Clone(numbers)
	changed[i] = x
	return changed
}

// wildNumbers are numbers that no field may have: they are negative, great, or those that a field
// may have when they are cut off at 32 bits.
func wildNumbers() []int64 {
	return []int64{math.MinInt64, math.MinInt64 + 1, math.MinInt64 + 4, -1 << 32, -1<<32 + 1, -1000001, -1001, -20, -9, -2, -1, 1000001, 1000000000, 1 << 31, 1 << 32, 1<<32 + 1, 1<<32 + 4, math.MaxInt64 - 1, math.MaxInt64}
}

// someNumbers are the limits of all fields, the numbers next to them, and wild numbers.
func someNumbers() []int64 {
	numbers := wildNumbers()
	for _, x := range []int64{0, 2, 5, 9, 20, 40, 999, 1000, 2000, 1000000} {
		numbers = append(numbers, x-1, x, x+1)
	}
	slices.Sort(numbers)
	return slices.Compact(numbers)
}

// goodOps are the numbers of valid operations: of each kind those with each field at its lowest
// number, at its highest, and between them.
func goodOps() [][]int64 {
	var good [][]int64
	for kind := range int64(6) {
		spans, is := opSpans()[kind]
		if !is {
			continue
		}
		for _, a := range []int64{spans[0][0], spans[0][1], (spans[0][0] + spans[0][1]) / 2} {
			for _, b := range []int64{spans[1][0], spans[1][1], spans[1][1] / 2} {
				for _, c := range []int64{spans[2][0], spans[2][1]} {
					for _, d := range []int64{spans[3][0], spans[3][1]} {
						good = append(good, []int64{kind, a, b, c, d})
					}
				}
			}
		}
	}
	return good
}

// goodStamps are valid numbers Index, Time, Client, Seq, at the limits and between them.
func goodStamps() [][]int64 {
	return [][]int64{{1, 0, 2, 1}, {2000, 1000000, 5, 2000}, {1, 1000000, 3, 2000}, {2000, 0, 4, 1}, {12, 40, 4, 3}, {999, 7, 2, 1001}}
}

// goodEntries are the numbers of valid entries.
func goodEntries() [][]int64 {
	var good [][]int64
	for _, stamp := range goodStamps() {
		for _, o := range goodOps() {
			good = append(good, slices.Concat(stamp, o))
		}
	}
	return good
}

func TestConstantsOfEntries(t *testing.T) {
	limits := []int64{impl.MaxKey, impl.MaxValue, impl.MaxId, impl.MaxEpoch, impl.MaxLong, impl.MaxIndex, impl.MaxSeq}
	equalInts(t, "the limits", limits, []int64{9, 999, 20, 1000, 1000, 2000, 2000})
	kinds := []int64{impl.OpPut, impl.OpCut, impl.OpJob, impl.OpFire, impl.OpLease}
	equalInts(t, "the kinds", kinds, []int64{1, 2, 3, 4, 5})
}

// wantOp fails the test if the functions of an operation and of its row do not agree that the
// numbers are, or are not, those of a valid operation.
func wantOp(t *testing.T, numbers []int64, is bool) {
	t.Helper()
	what := textOf(numbers)
	wantIs(t, "OpOk of "+what, impl.OpOk(opOf(numbers...)), is)
	row, want := impl.OpRow(opOf(numbers...)), impl.Op{}
	if is {
		equalInts(t, "OpRow of "+what, row, numbers)
		want = opOf(numbers...)
	} else {
		equalInts(t, "OpRow of "+what, row, nil)
	}
	got, ok := impl.RowOp(numbers)
	wantIs(t, "RowOp of "+what, ok, is)
	equalInts(t, "RowOp of "+what, opInts(got), opInts(want))
}

func TestOpsByHand(t *testing.T) {
	for _, o := range []impl.Op{
		{Kind: impl.OpPut, A: 3, B: 70}, {Kind: impl.OpCut, A: 3}, {Kind: impl.OpJob, A: 3, B: 40, C: 9, D: 999},
		{Kind: impl.OpFire, A: 3, B: 8}, {Kind: impl.OpLease, A: 20},
	} {
		wantOp(t, opInts(o), true)
	}
	equalInts(t, "a put", impl.OpRow(impl.Op{Kind: impl.OpPut, A: 3, B: 70}), []int64{1, 3, 70, 0, 0})
	equalInts(t, "a cut", impl.OpRow(impl.Op{Kind: impl.OpCut, A: 3}), []int64{2, 3, 0, 0, 0})
	equalInts(t, "a job", impl.OpRow(impl.Op{Kind: impl.OpJob, A: 3, B: 40, C: 9, D: 999}), []int64{3, 3, 40, 9, 999})
	equalInts(t, "a fire", impl.OpRow(impl.Op{Kind: impl.OpFire, A: 3, B: 8}), []int64{4, 3, 8, 0, 0})
	equalInts(t, "a lease", impl.OpRow(impl.Op{Kind: impl.OpLease, A: 20}), []int64{5, 20, 0, 0, 0})
	// the kinds next to the first and the last one, with the fields of every kind
	for _, kind := range append([]int64{0, 6, 7}, wildNumbers()...) {
		wantOp(t, []int64{kind, 0, 0, 0, 0}, false)
		for _, o := range goodOps() {
			wantOp(t, numberAt(o, 0, kind), false)
		}
	}
	wantOp(t, []int64{1, 0, 0, 0, 0}, true)
	wantOp(t, []int64{5, 1, 0, 0, 0}, true)
}

// Each field that a kind names, at its limits and one beyond them.
func TestOpsAtTheirLimits(t *testing.T) {
	for _, c := range []struct {
		numbers []int64
		at      int
		low     int64
		high    int64
	}{
		{[]int64{impl.OpPut, 4, 500, 0, 0}, 1, 0, impl.MaxKey}, {[]int64{impl.OpPut, 4, 500, 0, 0}, 2, 0, impl.MaxValue},
		{[]int64{impl.OpCut, 4, 0, 0, 0}, 1, 0, impl.MaxKey},
		{[]int64{impl.OpJob, 7, 60, 4, 500}, 1, 1, impl.MaxId}, {[]int64{impl.OpJob, 7, 60, 4, 500}, 2, 0, impl.MaxTime},
		{[]int64{impl.OpJob, 7, 60, 4, 500}, 3, 0, impl.MaxKey}, {[]int64{impl.OpJob, 7, 60, 4, 500}, 4, 0, impl.MaxValue},
		{[]int64{impl.OpFire, 7, 60, 0, 0}, 1, 1, impl.MaxId}, {[]int64{impl.OpFire, 7, 60, 0, 0}, 2, 0, impl.MaxEpoch},
		{[]int64{impl.OpLease, 60, 0, 0, 0}, 1, 1, impl.MaxLong},
	} {
		wantOp(t, numberAt(c.numbers, c.at, c.low-1), false)
		wantOp(t, numberAt(c.numbers, c.at, c.low), true)
		wantOp(t, numberAt(c.numbers, c.at, c.low+1), true)
		wantOp(t, numberAt(c.numbers, c.at, c.high-1), true)
		wantOp(t, numberAt(c.numbers, c.at, c.high), true)
		wantOp(t, numberAt(c.numbers, c.at, c.high+1), false)
		for _, x := range []int64{math.MinInt64, math.MaxInt64, 1<<32 + c.low, -c.high - 1} {
			wantOp(t, numberAt(c.numbers, c.at, x), false)
		}
	}
	// each field that a kind does not name
	for _, o := range [][]int64{{impl.OpPut, 4, 500, 0, 0}, {impl.OpCut, 4, 0, 0, 0}, {impl.OpFire, 7, 60, 0, 0}, {impl.OpLease, 60, 0, 0, 0}} {
		wantOp(t, o, true)
		for at := 4; at > 0 && o[at] == 0; at-- {
			for _, x := range []int64{1, -1, 1 << 32, math.MinInt64, math.MaxInt64} {
				wantOp(t, numberAt(o, at, x), false)
			}
		}
	}
}

// Each operation with each of its numbers, and each pair of its numbers, set to those at all limits.
func TestOpsWithChangedNumbers(t *testing.T) {
	for _, o := range goodOps() {
		wantOp(t, o, true)
		for i := range o {
			for _, x := range someNumbers() {
				changed := numberAt(o, i, x)
				wantOp(t, changed, opOkByHand(changed))
			}
		}
	}
	for _, o := range [][]int64{{1, 4, 500, 0, 0}, {2, 4, 0, 0, 0}, {3, 7, 60, 4, 500}, {4, 7, 60, 0, 0}, {5, 60, 0, 0, 0}} {
		for i := range o {
			for j := range i {
				for _, x := range someNumbers() {
					for _, y := range someNumbers() {
						changed := numberAt(numberAt(o, i, x), j, y)
						wantOp(t, changed, opOkByHand(changed))
					}
				}
			}
		}
	}
}

// wantNoOp fails the test if the row is that of an operation.
func wantNoOp(t *testing.T, row []int64) {
	t.Helper()
	got, ok := impl.RowOp(row)
	wantIs(t, "RowOp of "+textOf(row), ok, false)
	equalInts(t, "RowOp of "+textOf(row), opInts(got), repeated(5, 0))
}

// wantNoEntry fails the test if the row is that of an entry.
func wantNoEntry(t *testing.T, row []int64) {
	t.Helper()
	got, ok := impl.RowEntry(row)
	wantIs(t, "RowEntry of "+textOf(row), ok, false)
	equalInts(t, "RowEntry of "+textOf(row), entryInts(got), repeated(9, 0))
}

// Rows that are too short or too long, also where the numbers are right as far as they go, or where
// those that a row lacks stand behind its end.
func TestRowsOfOtherLengths(t *testing.T) {
	for _, o := range goodOps() {
		for many := range 5 {
			wantNoOp(t, o[:many])
			wantNoOp(t, o[:many:many])
		}
		wantNoOp(t, o[1:])
		for many := range 8 {
			for _, x := range []int64{0, 1, -1} {
				wantNoOp(t, append(slices.Clone(o), repeated(many+1, x)...))
				wantNoOp(t, append(repeated(many+1, x), o...))
			}
		}
		wantNoOp(t, append(slices.Clone(o), o...))
	}
	for _, e := range goodEntries() {
		for many := range 9 {
			wantNoEntry(t, e[:many])
			wantNoEntry(t, e[:many:many])
		}
		wantNoEntry(t, e[1:])
		wantNoEntry(t, e[4:])
		for many := range 3 {
			for _, x := range []int64{0, 1, -1} {
				wantNoEntry(t, append(slices.Clone(e), repeated(many+1, x)...))
				wantNoEntry(t, append(repeated(many+1, x), e...))
			}
		}
		wantNoOp(t, e)
	}
	for many := range 100 {
		for _, x := range []int64{0, 1, 2, 5} {
			wantNoOp(t, repeated(many, 0))
			wantNoEntry(t, repeated(many, 0))
			if many != 5 {
				wantNoOp(t, repeated(many, x))
			}
			if many != 9 {
				wantNoEntry(t, repeated(many, x))
			}
		}
	}
	wantNoOp(t, nil)
	wantNoEntry(t, nil)
}

func TestOpWord(t *testing.T) {
	words := map[int64]string{1: "put", 2: "cut", 3: "job", 4: "fire", 5: "lease"}
	for _, kind := range append(someNumbers(), 3, 4, 7, 8, -5) {
		if got := impl.OpWord(kind); got != words[kind] {
			t.Errorf("OpWord of %d: got %q, want %q", kind, got, words[kind])
		}
	}
}

func TestAskerOk(t *testing.T) {
	for _, c := range []struct {
		client int64
		want   bool
	}{
		{impl.NodeLog, false}, {impl.NodeStore, false}, {impl.NodeLeft - 1, false}, {impl.NodeLeft, true}, {impl.NodeRight, true},
		{impl.NodeAnn, true}, {impl.NodeBob, true}, {impl.NodeBob + 1, false},
	} {
		wantIs(t, "AskerOk of "+textOf([]int64{c.client}), impl.AskerOk(c.client), c.want)
	}
	for _, client := range append(someNumbers(), someNodes()...) {
		wantIs(t, "AskerOk of "+textOf([]int64{client}), impl.AskerOk(client), 2 <= client && client <= 5)
	}
}

// wantEntry fails the test if the functions of an entry, of its row and of the list of it alone do
// not agree that the numbers are, or are not, those of a valid entry.
func wantEntry(t *testing.T, numbers []int64, is bool) {
	t.Helper()
	what, e := textOf(numbers), entryOf(numbers...)
	wantIs(t, "EntryOk of "+what, impl.EntryOk(e), is)
	wantIs(t, "EntriesOk of "+what, impl.EntriesOk([]impl.Entry{e}), is)
	row, of, want := impl.EntryRow(e), impl.EntriesOf([]impl.Entry{e}, e.Client), impl.Entry{}
	if is {
		equalInts(t, "EntryRow of "+what, row, numbers)
		equalEntries(t, "EntriesOf of "+what, of, []impl.Entry{e})
		want = e
	} else {
		equalInts(t, "EntryRow of "+what, row, nil)
		equalEntries(t, "EntriesOf of "+what, of, nil)
	}
	got, ok := impl.RowEntry(numbers)
	wantIs(t, "RowEntry of "+what, ok, is)
	equalInts(t, "RowEntry of "+what, entryInts(got), entryInts(want))
}

func TestEntriesByHand(t *testing.T) {
	e := impl.Entry{Index: 2000, Time: 1000000, Client: 5, Seq: 2000, Op: impl.Op{Kind: impl.OpJob, A: 3, B: 40, C: 9, D: 999}}
	equalInts(t, "EntryRow", impl.EntryRow(e), []int64{2000, 1000000, 5, 2000, 3, 3, 40, 9, 999})
	wantEntry(t, []int64{2000, 1000000, 5, 2000, 3, 3, 40, 9, 999}, true)
	wantEntry(t, []int64{2001, 1000000, 5, 2000, 3, 3, 40, 9, 999}, false)
	wantEntry(t, []int64{12, 40, 4, 3, 1, 4, 17, 0, 0}, true)
	wantEntry(t, []int64{1, 0, 2, 1, 2, 0, 0, 0, 0}, true)
	wantEntry(t, []int64{1, 0, 3, 1, 4, 1, 0, 0, 0}, true)
	wantEntry(t, []int64{1, 0, 2, 1, 5, 1, 0, 0, 0}, true)
	wantEntry(t, repeated(9, 0), false)
	wantEntry(t, repeated(9, math.MinInt64), false)
	wantEntry(t, repeated(9, math.MaxInt64), false)
	// Index, Time, Client and Seq at their limits and one beyond them
	for _, c := range []struct {
		at   int
		low  int64
		high int64
	}{{0, 1, impl.MaxIndex}, {1, 0, impl.MaxTime}, {2, impl.NodeLeft, impl.NodeBob}, {3, 1, impl.MaxSeq}} {
		numbers := []int64{12, 40, 4, 3, 1, 4, 17, 0, 0}
		wantEntry(t, numberAt(numbers, c.at, c.low-1), false)
		wantEntry(t, numberAt(numbers, c.at, c.low), true)
		wantEntry(t, numberAt(numbers, c.at, c.low+1), true)
		wantEntry(t, numberAt(numbers, c.at, c.high-1), true)
		wantEntry(t, numberAt(numbers, c.at, c.high), true)
		wantEntry(t, numberAt(numbers, c.at, c.high+1), false)
		for _, x := range []int64{math.MinInt64, math.MaxInt64, 1<<32 + c.low, -c.high - 1} {
			wantEntry(t, numberAt(numbers, c.at, x), false)
		}
	}
	// operations that are not valid
	for _, o := range [][]int64{{0, 0, 0, 0, 0}, {6, 1, 0, 0, 0}, {1, 10, 0, 0, 0}, {1, 0, 1000, 0, 0}, {2, 1, 1, 0, 0}, {3, 0, 1, 1, 1}, {4, 1, 1, 1, 0}, {5, 0, 0, 0, 0}, {5, 1, 0, 0, -1}} {
		wantEntry(t, append([]int64{12, 40, 4, 3}, o...), false)
	}
}

// Each entry with each of its numbers set to those at all limits: the row is that of another entry
// or of none.
func TestEntriesWithChangedNumbers(t *testing.T) {
	for _, e := range goodEntries() {
		wantEntry(t, e, true)
		for i, old := range e {
			for _, x := range someNumbers() {
				changed := numberAt(e, i, x)
				wantEntry(t, changed, entryOkByHand(changed))
				got, ok := impl.RowEntry(changed)
				if x != old && ok && got == entryOf(e...) {
					t.Errorf("the rows %v and %v encode the same entry", e, changed)
				}
			}
		}
	}
}

// Promise 7: every operation is decoded from its row, and no row encodes two of them. All those of
// four kinds are tried, and of the jobs those at the limits of the due.
func TestEveryOpIsDecodedFromItsRow(t *testing.T) {
	seen := map[string]impl.Op{}
	try := func(o impl.Op) {
		row := impl.OpRow(o)
		if got, ok := impl.RowOp(row); !ok || got != o {
			t.Fatalf("RowOp of OpRow of %v: got %v, %v", o, got, ok)
		}
		text := textOf(row)
		if other, is := seen[text]; is {
			t.Fatalf("the row %v encodes both %v and %v", row, o, other)
		}
		seen[text] = o
	}
	for key := range int64(10) {
		try(impl.Op{Kind: impl.OpCut, A: key})
		for value := range int64(1000) {
			try(impl.Op{Kind: impl.OpPut, A: key, B: value})
		}
		for id := int64(1); id <= 20; id++ {
			for _, due := range []int64{0, 1, 40, lastTime} {
				for value := int64(0); value < 1000; value += 37 {
					try(impl.Op{Kind: impl.OpJob, A: id, B: due, C: key, D: value})
				}
			}
		}
	}
	for id := int64(1); id <= 20; id++ {
		for epoch := range int64(1001) {
			try(impl.Op{Kind: impl.OpFire, A: id, B: epoch})
		}
	}
	for long := int64(1); long <= 1000; long++ {
		try(impl.Op{Kind: impl.OpLease, A: long})
	}
}

// randomIn returns a number of a span.
func randomIn(r *rand.Rand, s span) int64 { return s[0] + r.Int63n(s[1]-s[0]+1) }

// randomEntry returns the numbers of a valid entry.
func randomEntry(r *rand.Rand) []int64 {
	kind := 1 + r.Int63n(5)
	var numbers []int64
	for _, s := range stampSpans() {
		numbers = append(numbers, randomIn(r, s))
	}
	numbers = append(numbers, kind)
	for _, s := range opSpans()[kind] {
		numbers = append(numbers, randomIn(r, s))
	}
	return numbers
}

// Promise 7 for random entries, and for their rows with one number changed, exchanged with the next
// one, or taken out.
func TestRandomEntriesAreDecodedFromTheirRows(t *testing.T) {
	r := rand.New(rand.NewSource(7))
	for range 20000 {
		numbers := randomEntry(r)
		wantEntry(t, numbers, true)
		i := r.Intn(9)
		for _, x := range []int64{numbers[i] - 1, numbers[i] + 1, r.Int63n(30), -numbers[i], r.Int63()} {
			changed := numberAt(numbers, i, x)
			wantEntry(t, changed, entryOkByHand(changed))
		}
		if i < 8 {
			swapped := slices.Clone(numbers)
			swapped[i], swapped[i+1] = swapped[i+1], swapped[i]
			wantEntry(t, swapped, entryOkByHand(swapped))
		}
		wantNoEntry(t, slices.Delete(slices.Clone(numbers), i, i+1))
		wantNoEntry(t, slices.Insert(slices.Clone(numbers), i, 0))
		if t.Failed() {
			t.Fatalf("for %v", numbers)
		}
	}
}

// manyEntries returns as many entries of the clients 2 to 5 in turn, the first of which has that
// Index. Every three of them have an equal Time.
func manyEntries(many int, first int64) []impl.Entry {
	var list []impl.Entry
	for i := range int64(many) {
		list = append(list, entryOf(first+i, 8+i/3, 2+i%4, 1+i/4, 1, i%10, i%1000, 0, 0))
	}
	return list
}

// entriesWith returns the entries with one of them changed.
func entriesWith(list []impl.Entry, at int, change func(e *impl.Entry)) []impl.Entry {
	changed := slices.Clone(list)
	change(&changed[at])
	return changed
}

// entriesOkByHand reports whether the entries are a valid list; indices and times are compared with
// those of the first entry and of all the earlier ones.
func entriesOkByHand(list []impl.Entry) bool {
	for i, e := range list {
		if !entryOkByHand(entryInts(e)) || e.Index-int64(i) != list[0].Index {
			return false
		}
		for _, earlier := range list[:i] {
			if earlier.Time > e.Time {
				return false
			}
		}
	}
	return len(list) <= 2000
}

// goodLists are valid lists of entries, among them the empty one and the longest ones.
func goodLists() [][]impl.Entry {
	put := []int64{1, 4, 17, 0, 0}
	good := [][]impl.Entry{
		nil, {},
		// a Time that is equal, that is greater, and that is as great as can be
		{entryOf(4, 7, 4, 1, 1, 4, 17, 0, 0), entryOf(5, 7, 5, 1, 2, 4, 0, 0, 0)},
		{entryOf(4, 7, 4, 1, 1, 4, 17, 0, 0), entryOf(5, 8, 5, 1, 3, 4, 8, 9, 10)},
		{entryOf(4, 0, 4, 1, 1, 4, 17, 0, 0), entryOf(5, 1000000, 4, 2, 4, 4, 8, 0, 0), entryOf(6, 1000000, 4, 3, 5, 4, 0, 0, 0)},
		// a Seq that is repeated, lower, and higher: they do not matter here
		{entryOf(4, 7, 4, 5, 1, 4, 17, 0, 0), entryOf(5, 7, 4, 5, 1, 4, 17, 0, 0), entryOf(6, 7, 4, 1, 1, 4, 17, 0, 0), entryOf(7, 7, 4, 2000, 1, 4, 17, 0, 0)},
		manyEntries(2000, 1), manyEntries(1999, 1), manyEntries(1999, 2), manyEntries(2, 1999), manyEntries(1, 2000), manyEntries(40, 1961), manyEntries(25, 1), manyEntries(25, 700),
	}
	for client := int64(2); client <= 5; client++ {
		for many := range int64(6) {
			var list []impl.Entry
			for i := range many {
				list = append(list, entryOf(append([]int64{31 + i, 9 + i*i, client, 1 + i}, put...)...))
			}
			good = append(good, list)
		}
	}
	return good
}

// badLists are lists of entries that are not valid, for one reason each.
func badLists() [][]impl.Entry {
	bad := [][]impl.Entry{
		// an Index that is skipped, repeated, lower, and that wraps around
		{entryOf(4, 7, 4, 1, 1, 4, 17, 0, 0), entryOf(6, 7, 4, 2, 1, 4, 17, 0, 0)},
		{entryOf(4, 7, 4, 1, 1, 4, 17, 0, 0), entryOf(4, 7, 4, 1, 1, 4, 17, 0, 0)},
		{entryOf(4, 7, 4, 1, 1, 4, 17, 0, 0), entryOf(4, 7, 4, 2, 1, 4, 17, 0, 0)},
		{entryOf(4, 7, 4, 1, 1, 4, 17, 0, 0), entryOf(3, 7, 4, 2, 1, 4, 17, 0, 0)},
		{entryOf(math.MaxInt64, 7, 4, 1, 1, 4, 17, 0, 0), entryOf(math.MinInt64, 7, 4, 2, 1, 4, 17, 0, 0)},
		{entryOf(2000, 7, 4, 1, 1, 4, 17, 0, 0), entryOf(1, 7, 4, 2, 1, 4, 17, 0, 0)},
		// a Time that is less
		{entryOf(4, 7, 4, 1, 1, 4, 17, 0, 0), entryOf(5, 6, 4, 2, 1, 4, 17, 0, 0)},
		{entryOf(4, 1000000, 4, 1, 1, 4, 17, 0, 0), entryOf(5, 0, 4, 2, 1, 4, 17, 0, 0)},
		{entryOf(4, 7, 4, 1, 1, 4, 17, 0, 0), entryOf(5, 9, 4, 2, 1, 4, 17, 0, 0), entryOf(6, 8, 4, 2, 1, 4, 17, 0, 0)},
		// beyond the last Index, before the first one, and too many
		manyEntries(2001, 1), manyEntries(2001, 0), manyEntries(2000, 2), manyEntries(2000, 0), manyEntries(2, 2000), manyEntries(1, 2001), manyEntries(5, 0), manyEntries(5, -2),
		slices.Repeat(manyEntries(1, 7), 2001), append(manyEntries(2000, 1), entryOf(2000, 1000000, 4, 2, 1, 4, 17, 0, 0)), manyEntries(5000, 1),
	}
	for at := range 7 {
		list := manyEntries(7, 40)
		for _, x := range wildNumbers() {
			bad = append(bad,
				entriesWith(list, at, func(e *impl.Entry) { e.Index = x }), entriesWith(list, at, func(e *impl.Entry) { e.Time = x }),
				entriesWith(list, at, func(e *impl.Entry) { e.Client = x }), entriesWith(list, at, func(e *impl.Entry) { e.Seq = x }),
				entriesWith(list, at, func(e *impl.Entry) { e.Op.Kind = x }), entriesWith(list, at, func(e *impl.Entry) { e.Op.A = x }),
				entriesWith(list, at, func(e *impl.Entry) { e.Op.B = x }), entriesWith(list, at, func(e *impl.Entry) { e.Op.C = x }),
				entriesWith(list, at, func(e *impl.Entry) { e.Op.D = x }))
		}
		bad = append(bad,
			entriesWith(list, at, func(e *impl.Entry) { *e = impl.Entry{} }), entriesWith(list, at, func(e *impl.Entry) { e.Op = impl.Op{} }),
			entriesWith(list, at, func(e *impl.Entry) { e.Client = 1 }), entriesWith(list, at, func(e *impl.Entry) { e.Client = 6 }),
			entriesWith(list, at, func(e *impl.Entry) { e.Seq = 0 }), entriesWith(list, at, func(e *impl.Entry) { e.Seq = 2001 }))
	}
	return bad
}

// clientsByHand returns the entries of that client.
func clientsByHand(list []impl.Entry, client int64) []impl.Entry {
	return slices.DeleteFunc(slices.Clone(list), func(e impl.Entry) bool { return e.Client != client })
}

// wantList fails the test if the list is, or is not, accepted, or if EntriesOf does not choose the
// entries of every client.
func wantList(t *testing.T, list []impl.Entry, is bool) {
	t.Helper()
	what := "the empty list"
	if len(list) > 0 {
		what = "from " + textOf(entryInts(list[0])) + " to " + textOf(entryInts(list[len(list)-1]))
	}
	wantIs(t, "EntriesOk "+what, impl.EntriesOk(list), is)
	for _, client := range someNodes() {
		var want []impl.Entry
		if is {
			want = clientsByHand(list, client)
		}
		equalEntries(t, "EntriesOf "+textOf([]int64{client})+" "+what, impl.EntriesOf(list, client), want)
	}
}

func TestListsOfEntries(t *testing.T) {
	for _, list := range goodLists() {
		wantList(t, list, true)
	}
	for _, list := range badLists() {
		wantList(t, list, false)
	}
	for _, list := range append(goodLists(), badLists()...) {
		wantIs(t, "the model of "+entriesText(list[:min(len(list), 9)]), impl.EntriesOk(list), entriesOkByHand(list))
	}
}

func TestEntriesOfByHand(t *testing.T) {
	a, b, c := entryOf(4, 7, 4, 1, 1, 4, 17, 0, 0), entryOf(5, 7, 5, 1, 2, 4, 0, 0, 0), entryOf(6, 9, 4, 2, 5, 30, 0, 0, 0)
	list := []impl.Entry{a, b, c}
	equalEntries(t, "some", impl.EntriesOf(list, 4), []impl.Entry{a, c})
	equalEntries(t, "one", impl.EntriesOf(list, 5), []impl.Entry{b})
	equalEntries(t, "none", impl.EntriesOf(list, 3), nil)
	equalEntries(t, "none of the log", impl.EntriesOf(list, 0), nil)
	equalEntries(t, "none of no node", impl.EntriesOf(list, 6), nil)
	equalEntries(t, "all", impl.EntriesOf(list[:1], 4), []impl.Entry{a})
	equalEntries(t, "all of many", impl.EntriesOf([]impl.Entry{a, entryOf(5, 8, 4, 2, 2, 4, 0, 0, 0)}, 4), []impl.Entry{a, entryOf(5, 8, 4, 2, 2, 4, 0, 0, 0)})
	equalEntries(t, "of no entries", impl.EntriesOf(nil, 4), nil)
	equalEntries(t, "of a list with a gap", impl.EntriesOf([]impl.Entry{a, c}, 4), nil)
	equalEntries(t, "of a list whose time goes back", impl.EntriesOf([]impl.Entry{a, entryOf(5, 6, 4, 1, 2, 4, 0, 0, 0)}, 4), nil)
	// the entries of an invalid client are never found, as no list has them
	equalEntries(t, "of an invalid entry", impl.EntriesOf([]impl.Entry{entryOf(4, 7, 1, 1, 1, 4, 17, 0, 0)}, 1), nil)
	equalEntries(t, "of a zero entry", impl.EntriesOf([]impl.Entry{{}}, 0), nil)
}

// Every single entry, and every short list of entries whose indices and times are few.
func TestEveryShortListOfEntries(t *testing.T) {
	for index := int64(-3); index < 2010; index++ {
		list := []impl.Entry{entryOf(index, 7, 4, 1, 1, 4, 17, 0, 0)}
		wantIs(t, "the index "+textOf([]int64{index}), impl.EntriesOk(list), 1 <= index && index <= 2000)
	}
	var singles []impl.Entry
	for _, index := range []int64{0, 1, 2, 3, 1999, 2000, 2001} {
		for _, time := range []int64{0, 1, 2} {
			singles = append(singles, entryOf(index, time, 2+index%2+time, 1, 2, 4, 0, 0, 0))
		}
	}
	for _, a := range singles {
		for _, b := range singles {
			wantList(t, []impl.Entry{a, b}, entriesOkByHand([]impl.Entry{a, b}))
			for _, c := range singles {
				list := []impl.Entry{a, b, c}
				wantIs(t, "EntriesOk of "+entriesText(list), impl.EntriesOk(list), entriesOkByHand(list))
			}
		}
	}
}

// randomList returns a list that is valid, or nearly so.
func randomList(r *rand.Rand) []impl.Entry {
	many, first, time := r.Intn(30), 1+r.Int63n(1975), r.Int63n(50)
	var list []impl.Entry
	for i := range int64(many) {
		numbers := randomEntry(r)
		time += r.Int63n(3)
		numbers[0], numbers[1] = first+i, time
		list = append(list, entryOf(numbers...))
	}
	if many > 0 && r.Intn(2) == 0 {
		e := &list[r.Intn(many)]
		switch r.Intn(4) {
		case 0:
			e.Index += r.Int63n(3) - 1
		case 1:
			e.Time += r.Int63n(7) - 3
		case 2:
			e.Client += r.Int63n(5) - 2
		default:
			e.Op.A += r.Int63n(5) - 2
		}
	}
	return list
}

func TestRandomListsOfEntries(t *testing.T) {
	r := rand.New(rand.NewSource(70))
	good, bad := 0, 0
	for range 20000 {
		list := randomList(r)
		is := entriesOkByHand(list)
		if is {
			good++
		} else {
			bad++
		}
		wantList(t, list, is)
		if t.Failed() {
			t.Fatalf("for %s", entriesText(list))
		}
	}
	if good < 2000 || bad < 2000 {
		t.Errorf("%d valid lists and %d others", good, bad)
	}
}

// roomyEntries returns entries with spare capacity that is in use elsewhere, and the whole array.
func roomyEntries(list []impl.Entry) ([]impl.Entry, []impl.Entry) {
	whole := append(slices.Clone(list), entryOf(91, 92, 4, 93, 1, 1, 1, 0, 0), entryOf(94, 95, 5, 96, 1, 2, 2, 0, 0))
	return whole[:len(list)], whole
}

// wipedEntries overwrites entries and their spare capacity.
func wipedEntries(list []impl.Entry) {
	list = list[:cap(list)]
	for i := range list {
		list[i] = entryOf(repeated(9, -9)...)
	}
}

func TestListsOfEntriesChangeNoArgument(t *testing.T) {
	for _, list := range append(goodLists(), badLists()...) {
		s, whole := roomyEntries(list)
		before := slices.Clone(whole)
		impl.EntriesOk(s)
		equalEntries(t, "EntriesOk has changed its argument", whole, before)
		for client := int64(1); client <= 6; client++ {
			// What the result shares with the argument would be wiped there as well.
			wipedEntries(impl.EntriesOf(s, client))
			equalEntries(t, "EntriesOf has changed its argument or shares its memory", whole, before)
		}
		for client := int64(1); client <= 6; client++ {
			arg, all := roomyEntries(list)
			one, other := impl.EntriesOf(arg, client), impl.EntriesOf(arg, client)
			want := slices.Clone(one)
			wipedEntries(all)
			equalEntries(t, "EntriesOf, its argument wiped", one, want)
			wipedEntries(one)
			equalEntries(t, "EntriesOf, an earlier result wiped", other, want)
		}
	}
}

func TestRowsOfEntriesChangeNoArgument(t *testing.T) {
	for _, numbers := range append(goodEntries(), repeated(9, 0), repeated(9, -1), repeated(9, 1), repeated(10, 1), nil) {
		s, whole := roomy(numbers...)
		unchanged(t, "RowEntry", whole, func() { impl.RowEntry(s) })
		got, _ := impl.RowEntry(s)
		want := entryInts(got)
		wiped(whole)
		equalInts(t, "RowEntry, its argument wiped", entryInts(got), want)
	}
	for _, numbers := range append(goodOps(), repeated(5, 0), repeated(5, -1), repeated(5, 1), repeated(6, 1), nil) {
		s, whole := roomy(numbers...)
		unchanged(t, "RowOp", whole, func() { impl.RowOp(s) })
		got, _ := impl.RowOp(s)
		want := opInts(got)
		wiped(whole)
		equalInts(t, "RowOp, its argument wiped", opInts(got), want)
	}
}

func TestRowsOfEntriesAreNew(t *testing.T) {
	for _, numbers := range goodEntries() {
		e := entryOf(numbers...)
		one, other := impl.EntryRow(e), impl.EntryRow(e)
		wiped(one)
		equalInts(t, "EntryRow, an earlier result wiped", other, numbers)
		equalInts(t, "EntryRow again", impl.EntryRow(e), numbers)
		// The row of an entry is not built in the memory of that of its operation.
		row, o := impl.EntryRow(e), impl.OpRow(e.Op)
		wiped(o)
		equalInts(t, "EntryRow, OpRow wiped", row, numbers)
		equalInts(t, "OpRow again", impl.OpRow(e.Op), numbers[4:])
		first, second := impl.OpRow(e.Op), impl.OpRow(e.Op)
		wiped(first)
		equalInts(t, "OpRow, an earlier result wiped", second, numbers[4:])
	}
}
