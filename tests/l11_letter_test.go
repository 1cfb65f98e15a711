package tests

import (
	"math"
	"math/rand"
	"slices"
	"strconv"
	"testing"

	"loop.example/g00851/impl"
)

// The messages from the numbers of their fields, and those numbers, field by field.

func askOf(f []int64) impl.Ask { return impl.Ask{Client: f[0], Seq: f[1], Op: opOf(f[2:]...)} }

func askInts(a impl.Ask) []int64 { return append([]int64{a.Client, a.Seq}, opInts(a.Op)...) }

func ackOf(f []int64) impl.Ack {
	return impl.Ack{Client: f[0], Seq: f[1], Index: f[2], Last: f[3]}
}

func ackInts(a impl.Ack) []int64 { return []int64{a.Client, a.Seq, a.Index, a.Last} }

func feedOf(f []int64) impl.Feed {
	feed := impl.Feed{Base: f[0], Last: f[1]}
	for part := range slices.Chunk(f[2:], 9) {
		feed.Entries = append(feed.Entries, entryOf(part...))
	}
	return feed
}

func feedInts(f impl.Feed) []int64 {
	numbers := []int64{f.Base, f.Last}
	for _, e := range f.Entries {
		numbers = append(numbers, entryInts(e)...)
	}
	return numbers
}

func readOf(f []int64) impl.Read {
	return impl.Read{Client: f[0], Seq: f[1], Key: f[2], Least: f[3]}
}

func readInts(r impl.Read) []int64 { return []int64{r.Client, r.Seq, r.Key, r.Least} }

func valueOf(f []int64) impl.Value {
	return impl.Value{Client: f[0], Seq: f[1], Index: f[2], Has: f[3], Value: f[4]}
}

func valueInts(v impl.Value) []int64 { return []int64{v.Client, v.Seq, v.Index, v.Has, v.Value} }

func jobsOf(f []int64) impl.Jobs {
	jobs := impl.Jobs{Index: f[0], Time: f[1], Holder: f[2], Epoch: f[3], Until: f[4]}
	for part := range slices.Chunk(f[5:], 2) {
		jobs.Open = append(jobs.Open, impl.Due{Id: part[0], Due: part[1]})
	}
	return jobs
}

func jobsInts(j impl.Jobs) []int64 {
	numbers := []int64{j.Index, j.Time, j.Holder, j.Epoch, j.Until}
	for _, d := range j.Open {
		numbers = append(numbers, d.Id, d.Due)
	}
	return numbers
}

// The definitions of valid messages, by the numbers of their fields.

func askByHand(f []int64) bool { return isClient(f[0]) && isSeq(f[1]) && opOkByHand(f[2:]) }

func ackByHand(f []int64) bool {
	client, seq, index, last := f[0], f[1], f[2], f[3]
	return isClient(client) && isSeq(seq) && isSeq(last) && (last == seq && isIndex(index) || last > seq && index == 0)
}

func fetchByHand(f []int64) bool { return isIndex(f[0]) || f[0] == 2001 }

func feedByHand(f []int64) bool {
	base, last := f[0], f[1]
	if base != 0 && !isIndex(base) || last != 0 && !isIndex(last) || base > last {
		return false
	}
	list := feedOf(f).Entries
	for _, e := range list {
		if e.Index <= base || e.Index > last {
			return false
		}
	}
	return len(list) <= 3 && entriesOkByHand(list)
}

func trimByHand(f []int64) bool { return isIndex(f[0]) }

func readByHand(f []int64) bool {
	return isClient(f[0]) && isSeq(f[1]) && 0 <= f[2] && f[2] <= 9 && (f[3] == 0 || isIndex(f[3]))
}

func valueByHand(f []int64) bool {
	if !isClient(f[0]) || !isSeq(f[1]) || f[2] != 0 && !isIndex(f[2]) {
		return false
	}
	switch f[3] {
	case 0:
		return f[4] == 0
	case 1:
		return 0 <= f[4] && f[4] <= 999
	}
	return false
}

func pollByHand(f []int64) bool { return f[0] == 2 || f[0] == 3 }

func jobsByHand(f []int64) bool {
	if f[0] != 0 && !isIndex(f[0]) || !isTime(f[1]) || f[2] != 0 && f[2] != 2 && f[2] != 3 {
		return false
	}
	if f[3] < 0 || f[3] > 1000 || f[4] < 0 || f[4] > 1001000 || len(f) > 5+16 {
		return false
	}
	for i := 5; i < len(f); i += 2 {
		if f[i] < 1 || f[i] > 20 || !isTime(f[i+1]) {
			return false
		}
		// each element is compared with all the earlier ones, as one number
		for k := 5; k < i; k += 2 {
			if f[k] == f[i] || 100*f[k+1]+f[k] > 100*f[i+1]+f[i] {
				return false
			}
		}
	}
	return true
}

// A letterKind has the functions of one kind of messages, which take and give the numbers of the
// fields here. A message has always fields, and each more for every element of its list.
type letterKind struct {
	name   string
	always int
	each   int
	fits   func(f []int64) bool
	ok     func(f []int64) bool
	encode func(f []int64) []int64
	decode func(row []int64) ([]int64, bool)
}

// letterKinds are the nine kinds, in the order of their numbers.
func letterKinds() []letterKind {
	return []letterKind{
		{"Ask", 7, 0, askByHand,
			func(f []int64) bool { return impl.AskOk(askOf(f)) },
			func(f []int64) []int64 { return impl.AskRow(askOf(f)) },
			func(row []int64) ([]int64, bool) { a, ok := impl.RowAsk(row); return askInts(a), ok }},
		{"Ack", 4, 0, ackByHand,
			func(f []int64) bool { return impl.AckOk(ackOf(f)) },
			func(f []int64) []int64 { return impl.AckRow(ackOf(f)) },
			func(row []int64) ([]int64, bool) { a, ok := impl.RowAck(row); return ackInts(a), ok }},
		{"Fetch", 1, 0, fetchByHand, nil,
			func(f []int64) []int64 { return impl.FetchRow(f[0]) },
			func(row []int64) ([]int64, bool) { x, ok := impl.RowFetch(row); return []int64{x}, ok }},
		{"Feed", 2, 9, feedByHand,
			func(f []int64) bool { return impl.FeedOk(feedOf(f)) },
			func(f []int64) []int64 { return impl.FeedRow(feedOf(f)) },
			func(row []int64) ([]int64, bool) { x, ok := impl.RowFeed(row); return feedInts(x), ok }},
		{"Trim", 1, 0, trimByHand, nil,
			func(f []int64) []int64 { return impl.TrimRow(f[0]) },
			func(row []int64) ([]int64, bool) { x, ok := impl.RowTrim(row); return []int64{x}, ok }},
		{"Read", 4, 0, readByHand,
			func(f []int64) bool { return impl.ReadOk(readOf(f)) },
			func(f []int64) []int64 { return impl.ReadRow(readOf(f)) },
			func(row []int64) ([]int64, bool) { r, ok := impl.RowRead(row); return readInts(r), ok }},
		{"Value", 5, 0, valueByHand,
			func(f []int64) bool { return impl.ValueOk(valueOf(f)) },
			func(f []int64) []int64 { return impl.ValueRow(valueOf(f)) },
			func(row []int64) ([]int64, bool) { v, ok := impl.RowValue(row); return valueInts(v), ok }},
		{"Poll", 1, 0, pollByHand, nil,
			func(f []int64) []int64 { return impl.PollRow(f[0]) },
			func(row []int64) ([]int64, bool) { x, ok := impl.RowPoll(row); return []int64{x}, ok }},
		{"Jobs", 5, 2, jobsByHand,
			func(f []int64) bool { return impl.JobsOk2(jobsOf(f)) },
			func(f []int64) []int64 { return impl.JobsRow(jobsOf(f)) },
			func(row []int64) ([]int64, bool) { j, ok := impl.RowJobs(row); return jobsInts(j), ok }},
	}
}

// can reports whether a message of the kind can have so many fields, valid or not.
func (k letterKind) can(many int) bool {
	if k.each == 0 {
		return many == k.always
	}
	return many >= k.always && (many-k.always)%k.each == 0
}

// kindByHand returns what KindOf is to return.
func kindByHand(row []int64) int64 {
	if len(row) == 0 || len(row) > 48 || slices.Min(row) < 0 || slices.Max(row) > 1000000000 || row[0] > 9 {
		return 0
	}
	return row[0]
}

// wantRow fails the test if a row is not decoded as the only message that it encodes, if it encodes
// one, or if it is decoded as anything else.
func wantRow(t *testing.T, row []int64) {
	t.Helper()
	if got, want := impl.KindOf(row), kindByHand(row); got != want {
		t.Errorf("KindOf %v: got %d, want %d", row, got, want)
	}
	for i, k := range letterKinds() {
		is := len(row) > 0 && row[0] == int64(i)+1 && k.can(len(row)-1) && k.fits(row[1:])
		want := make([]int64, k.always)
		if is {
			want = row[1:]
		}
		got, ok := k.decode(row)
		if ok != is || !slices.Equal(got, want) {
			t.Errorf("Row%s %v: got %v, %v, want %v, %v", k.name, row, got, ok, want, is)
		}
		if ok {
			equalInts(t, k.name+"Row of what was decoded", k.encode(got), row)
		}
	}
}

// wantLetter fails the test if a message with these fields is not accepted or not encoded as it is to
// be, or if the row of its numbers is not decoded.
func wantLetter(t *testing.T, kind int64, f ...int64) {
	t.Helper()
	k := letterKinds()[kind-1]
	row, is := append([]int64{kind}, f...), k.fits(f)
	if k.ok != nil && k.ok(f) != is {
		t.Errorf("%sOk %v: got %v, want %v", k.name, f, !is, is)
	}
	var want []int64
	if is {
		want = row
	}
	if got := k.encode(f); !slices.Equal(got, want) {
		t.Errorf("%sRow %v: got %v, want %v", k.name, f, got, want)
	}
	wantRow(t, row)
}

// wantGood fails the test if the message is not valid.
func wantGood(t *testing.T, kind int64, f ...int64) {
	t.Helper()
	wantIs(t, "the definition of kind "+textOf(append([]int64{kind}, f...)), letterKinds()[kind-1].fits(f), true)
	wantLetter(t, kind, f...)
}

// wantBad fails the test if the message is valid.
func wantBad(t *testing.T, kind int64, f ...int64) {
	t.Helper()
	wantIs(t, "the definition of kind "+textOf(append([]int64{kind}, f...)), letterKinds()[kind-1].fits(f), false)
	wantLetter(t, kind, f...)
}

func TestConstantsOfLetters(t *testing.T) {
	kinds := []int64{impl.MkAsk, impl.MkAck, impl.MkFetch, impl.MkFeed, impl.MkTrim, impl.MkRead, impl.MkValue, impl.MkPoll, impl.MkJobs}
	equalInts(t, "the kinds", kinds, []int64{1, 2, 3, 4, 5, 6, 7, 8, 9})
	equalInts(t, "the limit of Until", []int64{impl.MaxUntil}, []int64{1001000})
}

// The examples of the document, and what they are examples of.
func TestLettersByHand(t *testing.T) {
	put := impl.Op{Kind: impl.OpPut, A: 3, B: 70}
	equalInts(t, "an Ask", impl.AskRow(impl.Ask{Client: 4, Seq: 2, Op: put}), []int64{1, 4, 2, 1, 3, 70, 0, 0})
	wantIs(t, "an Ask of client 1", impl.AskOk(impl.Ask{Client: 1, Seq: 2, Op: put}), false)
	wantIs(t, "an Ask of client 4", impl.AskOk(impl.Ask{Client: 4, Seq: 2, Op: put}), true)
	equalInts(t, "an Ack", impl.AckRow(impl.Ack{Client: 4, Seq: 2, Index: 9, Last: 2}), []int64{2, 4, 2, 9, 2})
	equalInts(t, "an Ack of an older request", impl.AckRow(impl.Ack{Client: 4, Seq: 2, Last: 3}), []int64{2, 4, 2, 0, 3})
	equalInts(t, "a Fetch", impl.FetchRow(2001), []int64{3, 2001})
	lease := impl.Entry{Index: 5, Time: 7, Client: 2, Seq: 1, Op: impl.Op{Kind: impl.OpLease, A: 20}}
	equalInts(t, "a Feed", impl.FeedRow(impl.Feed{Base: 4, Last: 6, Entries: []impl.Entry{lease}}), []int64{4, 4, 6, 5, 7, 2, 1, 5, 20, 0, 0, 0})
	equalInts(t, "the zero Feed", impl.FeedRow(impl.Feed{}), []int64{4, 0, 0})
	equalInts(t, "a Trim", impl.TrimRow(1), []int64{5, 1})
	equalInts(t, "a Read", impl.ReadRow(impl.Read{Client: 5, Seq: 1, Key: 9, Least: 4}), []int64{6, 5, 1, 9, 4})
	equalInts(t, "a Value", impl.ValueRow(impl.Value{Client: 5, Seq: 1, Index: 4, Has: 1, Value: 999}), []int64{7, 5, 1, 4, 1, 999})
	equalInts(t, "a Poll", impl.PollRow(3), []int64{8, 3})
	jobs := impl.Jobs{Index: 3, Time: 8, Holder: 2, Epoch: 1, Until: 28, Open: []impl.Due{{Id: 4, Due: 5}, {Id: 2, Due: 9}}}
	equalInts(t, "Jobs", impl.JobsRow(jobs), []int64{9, 3, 8, 2, 1, 28, 4, 5, 2, 9})
	equalInts(t, "the zero Jobs", impl.JobsRow(impl.Jobs{}), []int64{9, 0, 0, 0, 0, 0})
	for _, row := range [][]int64{
		{1, 4, 2, 1, 3, 70, 0, 0}, {2, 4, 2, 9, 2}, {2, 4, 2, 0, 3}, {3, 2001}, {4, 4, 6, 5, 7, 2, 1, 5, 20, 0, 0, 0}, {4, 0, 0}, {5, 1},
		{6, 5, 1, 9, 4}, {7, 5, 1, 4, 1, 999}, {7, 5, 1, 4, 0, 0}, {8, 2}, {8, 3}, {9, 3, 8, 2, 1, 28, 4, 5, 2, 9}, {9, 0, 0, 0, 0, 0},
	} {
		wantGood(t, row[0], row[1:]...)
	}
	for _, row := range [][]int64{
		{1, 1, 2, 1, 3, 70, 0, 0}, {2, 4, 2, 9, 3}, {2, 4, 2, 0, 2}, {3, 0}, {3, 2002}, {4, 2, 1}, {5, 2001}, {6, 5, 1, 10, 4}, {7, 5, 1, 4, 0, 999},
		{8, 1}, {8, 4}, {9, 0, 0, 1, 0, 0},
	} {
		wantBad(t, row[0], row[1:]...)
	}
	wantRow(t, []int64{1, 4, 2, 1, 3, 70, 0, 0, 0})
	wantRow(t, []int64{3, 4})
}

// someClients and someSeqs are at the limits, next to them, and far beyond them.
func someClients() []int64 { return append([]int64{0, 1, 2, 3, 4, 5, 6, 7}, wildNumbers()...) }

func someSeqs() []int64 { return append([]int64{0, 1, 2, 1999, 2000, 2001}, wildNumbers()...) }

// The client and the Seq of the four kinds that have them.
func TestClientsAndSeqsOfLetters(t *testing.T) {
	for _, client := range someClients() {
		for _, seq := range someSeqs() {
			for _, o := range [][]int64{{1, 0, 0, 0, 0}, {5, 1000, 0, 0, 0}} {
				wantLetter(t, 1, append([]int64{client, seq}, o...)...)
			}
			for _, last := range []int64{seq, 2000, 2001} {
				wantLetter(t, 2, client, seq, 0, last)
				wantLetter(t, 2, client, seq, 7, last)
			}
			wantLetter(t, 6, client, seq, 0, 0)
			wantLetter(t, 6, client, seq, 9, 2000)
			wantLetter(t, 7, client, seq, 0, 0, 0)
			wantLetter(t, 7, client, seq, 2000, 1, 999)
		}
	}
	for client := int64(2); client <= 5; client++ {
		wantGood(t, 1, client, 1, 2, 9, 0, 0, 0)
		wantGood(t, 2, client, 2000, 2000, 2000)
		wantGood(t, 6, client, 2000, 0, 0)
		wantGood(t, 7, client, 1, 0, 0, 0)
	}
	for _, client := range []int64{-1, 0, 1, 6} {
		wantBad(t, 1, client, 1, 2, 9, 0, 0, 0)
		wantBad(t, 2, client, 2000, 2000, 2000)
		wantBad(t, 6, client, 2000, 0, 0)
		wantBad(t, 7, client, 1, 0, 0, 0)
	}
}

// badOps are the numbers of operations that are not valid.
func badOps() [][]int64 {
	bad := [][]int64{{0, 0, 0, 0, 0}, {6, 1, 0, 0, 0}, {-1, 1, 0, 0, 0}}
	for _, o := range goodOps() {
		for i := range o {
			for _, x := range []int64{-1, 0, 1, 10, 21, 1000, 1001, 1000001, math.MinInt64, math.MaxInt64} {
				if changed := numberAt(o, i, x); !opOkByHand(changed) {
					bad = append(bad, changed)
				}
			}
		}
	}
	return bad
}

func TestOpsOfAsks(t *testing.T) {
	for client := int64(2); client <= 5; client++ {
		for _, o := range goodOps() {
			wantGood(t, 1, append([]int64{client, 2000}, o...)...)
		}
	}
	for _, o := range badOps() {
		wantBad(t, 1, append([]int64{4, 2}, o...)...)
	}
}

func TestIndicesAndLastOfAcks(t *testing.T) {
	indices := append([]int64{0, 1, 2, 1999, 2000, 2001}, wildNumbers()...)
	for _, seq := range []int64{1, 2, 3, 900, 1999, 2000} {
		for _, index := range indices {
			for _, last := range append([]int64{seq - 1, seq, seq + 1, seq - 2, seq + 2, 1, 0, 1999, 2000, 2001}, wildNumbers()...) {
				wantLetter(t, 2, 4, seq, index, last)
			}
		}
	}
	for seq := int64(1); seq <= 2000; seq += 7 {
		wantGood(t, 2, 3, seq, seq, seq)
		wantBad(t, 2, 3, seq, 0, seq)
		wantBad(t, 2, 3, seq, 0, seq-1)
		wantBad(t, 2, 3, seq, 1, seq-1)
		wantBad(t, 2, 3, seq, 0, 2001)
		wantBad(t, 2, 3, seq, 1, 2001)
		if seq < 2000 {
			wantGood(t, 2, 3, seq, 0, seq+1)
			wantGood(t, 2, 3, seq, 0, 2000)
			wantBad(t, 2, 3, seq, 1, seq+1)
			wantBad(t, 2, 3, seq, 2000, 2000)
		}
	}
}

// Every Fetch, Trim and Poll within and around the limits.
func TestLettersOfOneNumber(t *testing.T) {
	numbers := someNumbers()
	for x := int64(-5); x <= 2010; x++ {
		numbers = append(numbers, x)
	}
	for _, x := range numbers {
		wantIs(t, "a Fetch from "+textOf([]int64{x}), len(impl.FetchRow(x)) == 2, 1 <= x && x <= 2001)
		wantIs(t, "a Trim to "+textOf([]int64{x}), len(impl.TrimRow(x)) == 2, 1 <= x && x <= 2000)
		wantIs(t, "a Poll of "+textOf([]int64{x}), len(impl.PollRow(x)) == 2, x == 2 || x == 3)
		wantLetter(t, 3, x)
		wantLetter(t, 5, x)
		wantLetter(t, 8, x)
	}
}

// feedWith returns the fields of a Feed.
func feedWith(base, last int64, list ...impl.Entry) []int64 {
	return feedInts(impl.Feed{Base: base, Last: last, Entries: list})
}

// Feeds of no to six entries, with each place of Base and Last before, at and after them.
func TestBaseAndLastOfFeeds(t *testing.T) {
	for _, first := range []int64{1, 2, 7, 1996, 1997, 1998, 1999, 2000} {
		for many := range 7 {
			list := manyEntries(many, first)
			end := first + int64(many) - 1
			for _, base := range []int64{-1, 0, first - 2, first - 1, first, first + 1, end - 1, end, end + 1, 2000, 2001, math.MinInt64, math.MaxInt64} {
				for _, last := range []int64{-1, 0, base - 1, base, base + 1, first - 1, first, end - 1, end, end + 1, 2000, 2001, math.MinInt64, math.MaxInt64} {
					wantLetter(t, 4, feedWith(base, last, list...)...)
				}
			}
		}
	}
}

func TestFeedsByHand(t *testing.T) {
	for many := range 4 {
		list := manyEntries(many, 5)
		end := 4 + int64(many)
		wantGood(t, 4, feedWith(4, end, list...)...)
		// a gap before the first entry, and one behind the last one
		wantGood(t, 4, feedWith(0, end, list...)...)
		wantGood(t, 4, feedWith(3, end, list...)...)
		wantGood(t, 4, feedWith(4, end+1, list...)...)
		wantGood(t, 4, feedWith(4, 2000, list...)...)
		wantBad(t, 4, feedWith(4, 2001, list...)...)
		wantBad(t, 4, feedWith(-1, end, list...)...)
		wantBad(t, 4, feedWith(end+1, end, list...)...)
		if many > 0 {
			wantBad(t, 4, feedWith(5, end, list...)...)
			wantBad(t, 4, feedWith(5, 2000, list...)...)
			wantBad(t, 4, feedWith(4, end-1, list...)...)
			wantBad(t, 4, feedWith(0, end-1, list...)...)
		}
	}
	for base := int64(0); base <= 2000; base += 10 {
		wantGood(t, 4, feedWith(base, base)...)
		wantGood(t, 4, feedWith(base, 2000)...)
		wantGood(t, 4, feedWith(0, base)...)
		wantBad(t, 4, feedWith(base+1, base)...)
	}
	wantGood(t, 4, feedWith(1997, 2000, manyEntries(3, 1998)...)...)
	wantBad(t, 4, feedWith(1997, 2001, manyEntries(3, 1999)...)...)
	wantBad(t, 4, feedWith(0, 2000, manyEntries(4, 1)...)...)
	wantBad(t, 4, feedWith(0, 2000, manyEntries(5, 1)...)...)
	wantBad(t, 4, feedWith(0, 2000, manyEntries(2000, 1)...)...)
	wantBad(t, 4, feedWith(0, 2000, manyEntries(5000, 1)...)...)
	wantBad(t, 4, feedWith(0, 2000, manyEntries(2, 0)...)...)
}

// Entries that do not follow each other, or are not valid, at each place of a Feed.
func TestEntriesOfFeeds(t *testing.T) {
	a, b, c := entryOf(5, 40, 4, 1, 2, 4, 0, 0, 0), entryOf(6, 40, 4, 2, 2, 4, 0, 0, 0), entryOf(7, 40, 5, 1, 2, 4, 0, 0, 0)
	wantGood(t, 4, feedWith(4, 9, a, b, c)...)
	for _, list := range [][]impl.Entry{{a, c}, {b, a}, {a, a}, {a, c, b}, {b, a, c}, {c, b, a}, {a, b, b}, {a, a, b}, {a, b, a}, {c, a, b}, {{}}, {a, {}}, {{}, a}} {
		wantBad(t, 4, feedWith(0, 2000, list...)...)
	}
	list := manyEntries(3, 5)
	for at := range list {
		for i := range 9 {
			for _, x := range someNumbers() {
				changed := slices.Clone(list)
				changed[at] = entryOf(numberAt(entryInts(list[at]), i, x)...)
				wantLetter(t, 4, feedWith(0, 2000, changed...)...)
				wantLetter(t, 4, feedWith(4, 7, changed...)...)
				wantLetter(t, 4, feedWith(0, 2000, changed[at])...)
			}
		}
	}
	for _, e := range badEntries() {
		wantBad(t, 4, feedWith(0, 2000, e)...)
	}
	for _, e := range goodEntries() {
		wantGood(t, 4, feedWith(e[0]-1, e[0], entryOf(e...))...)
	}
}

func TestKeysAndLeastOfReads(t *testing.T) {
	keys := append([]int64{0, 1, 8, 9, 10}, wildNumbers()...)
	for _, key := range keys {
		for _, least := range append([]int64{0, 1, 1999, 2000, 2001}, wildNumbers()...) {
			wantLetter(t, 6, 5, 1, key, least)
			wantIs(t, "the Key and the Least "+textOf([]int64{key, least}), impl.ReadOk(impl.Read{Client: 5, Seq: 1, Key: key, Least: least}), 0 <= key && key <= 9 && 0 <= least && least <= 2000)
		}
	}
}

func TestHasOfValues(t *testing.T) {
	values := append([]int64{0, 1, 2, 500, 998, 999, 1000}, wildNumbers()...)
	for _, has := range append([]int64{0, 1, 2, 3}, wildNumbers()...) {
		for _, value := range values {
			for _, index := range append([]int64{0, 1, 1999, 2000, 2001}, wildNumbers()...) {
				wantLetter(t, 7, 2, 2000, index, has, value)
			}
		}
	}
	for value := range int64(1000) {
		wantGood(t, 7, 4, 1, 4, 1, value)
		wantBad(t, 7, 4, 1, 4, 2, value)
		wantBad(t, 7, 4, 1, 4, -1, value)
		if value != 0 {
			wantBad(t, 7, 4, 1, 4, 0, value)
		}
	}
	wantGood(t, 7, 4, 1, 4, 0, 0)
}

// The numbers of Jobs beside Open, each at its limits and beyond them while the others are valid.
func TestFieldsOfJobs(t *testing.T) {
	for i, limits := range [][]int64{{0, 1, 1999, 2000, 2001}, {0, 1, 999999, 1000000, 1000001}, {0, 1, 2, 3, 4, 5, 6}, {0, 1, 999, 1000, 1001}, {0, 1, 1000000, 1000001, 1000999, 1001000, 1001001}} {
		for _, x := range append(slices.Concat(limits, someNumbers()), -1, 1001000, 1001001) {
			for _, f := range [][]int64{repeated(5, 0), {3, 8, 2, 1, 28}, {2000, 1000000, 3, 1000, 1001000, 1, 0, 20, 1000000}} {
				wantLetter(t, 9, numberAt(f, i, x)...)
			}
		}
	}
	wantGood(t, 9, 0, 0, 0, 0, 1001000)
	wantBad(t, 9, 0, 0, 0, 0, 1001001)
	wantGood(t, 9, 2000, 1000000, 3, 1000, 0)
	for node := int64(-2); node < 9; node++ {
		wantIs(t, "the Holder "+textOf([]int64{node}), impl.JobsOk2(impl.Jobs{Holder: node}), node == 0 || node == 2 || node == 3)
	}
	// the fields do not depend on each other: a lease without a holder, one of epoch 0, and one that has ended
	wantGood(t, 9, 0, 0, 0, 1000, 7)
	wantGood(t, 9, 5, 1000, 2, 0, 7)
}

// jobsWith returns the fields of Jobs whose open jobs have these numbers Id and Due in turn.
func jobsWith(open ...int64) []int64 { return append([]int64{3, 8, 2, 1, 28}, open...) }

func TestOpenOfJobs(t *testing.T) {
	for _, open := range [][]int64{
		nil, {1, 0}, {20, 1000000}, {4, 5, 2, 9}, {2, 5, 4, 5}, {2, 5, 4, 9}, {4, 0, 3, 1, 2, 1000000}, {1, 7, 2, 7, 20, 7}, {20, 6, 1, 7},
		{1, 0, 2, 0, 3, 0, 4, 0, 5, 0, 6, 0, 7, 0, 8, 0}, {8, 1, 7, 2, 6, 3, 5, 4, 4, 5, 3, 6, 2, 7, 1, 8},
	} {
		wantGood(t, 9, jobsWith(open...)...)
	}
	for _, open := range [][]int64{
		// an id or a due beyond the limits
		{0, 5}, {21, 5}, {-1, 5}, {4, -1}, {4, 1000001}, {4, math.MinInt64}, {4, math.MaxInt64}, {math.MinInt64, 5}, {math.MaxInt64, 5},
		{0, 4, 4, 5}, {4, 5, 21, 5}, {4, 5, 5, 1000001}, {4, -1, 5, 5},
		// an id twice, next to each other and apart, with the same due and with another one
		{4, 5, 4, 5}, {4, 5, 4, 6}, {4, 5, 5, 5, 4, 6}, {4, 5, 2, 6, 4, 7}, {1, 1, 2, 2, 3, 3, 4, 4, 5, 5, 6, 6, 7, 7, 1, 8},
		// not in the order by Due, and not in that by Id
		{4, 9, 2, 5}, {2, 9, 4, 5}, {4, 5, 2, 5}, {1, 5, 3, 5, 2, 5}, {1, 5, 2, 4, 3, 6}, {1, 5, 2, 6, 3, 5}, {2, 0, 1, 0},
		// too many
		{1, 0, 2, 0, 3, 0, 4, 0, 5, 0, 6, 0, 7, 0, 8, 0, 9, 0}, {8, 1, 7, 2, 6, 3, 5, 4, 4, 5, 3, 6, 2, 7, 1, 8, 9, 9},
	} {
		wantBad(t, 9, jobsWith(open...)...)
	}
	var open []int64
	for id := int64(1); id <= 20; id++ {
		open = append(open, id, 10)
		wantLetter(t, 9, jobsWith(open...)...)
		wantIs(t, "as many open jobs as "+textOf([]int64{id}), impl.JobsOk2(jobsOf(jobsWith(open...))), id <= 8)
	}
	wantBad(t, 9, jobsWith(slices.Repeat(open, 200)...)...)
}

// Every list of up to three open jobs with few ids and dues, and those with an id or a due that is
// changed at each place of the longest list.
func TestEveryShortListOfOpenJobs(t *testing.T) {
	var singles [][]int64
	for _, id := range []int64{0, 1, 2, 20, 21} {
		for _, due := range []int64{-1, 0, 1, 1000000, 1000001} {
			singles = append(singles, []int64{id, due})
		}
	}
	for _, a := range singles {
		wantLetter(t, 9, jobsWith(a...)...)
		for _, b := range singles {
			wantLetter(t, 9, jobsWith(slices.Concat(a, b)...)...)
			for _, c := range singles {
				f := jobsWith(slices.Concat(a, b, c)...)
				wantIs(t, "JobsOk2 of "+textOf(f), impl.JobsOk2(jobsOf(f)), jobsByHand(f))
			}
		}
	}
	longest := jobsWith(8, 1, 7, 2, 6, 3, 4, 4, 5, 4, 13, 6, 12, 7, 19, 8)
	wantGood(t, 9, longest...)
	for i := 5; i < len(longest); i++ {
		for _, x := range append(upTo(24), someNumbers()...) {
			wantLetter(t, 9, numberAt(longest, i, x)...)
		}
	}
}

func TestKindsOfRows(t *testing.T) {
	for _, rest := range [][]int64{nil, {0}, {4, 2}, {1000000000}, repeated(47, 5), {-1}, {1000000001}, {5, math.MinInt64}, repeated(48, 5), repeated(2000, 1)} {
		for _, first := range append([]int64{0, 1, 2, 3, 4, 5, 6, 7, 8, 9, 10, 11}, wildNumbers()...) {
			row := append([]int64{first}, rest...)
			want := int64(0)
			if 1 <= first && first <= 9 && impl.RowOk(row) {
				want = first
			}
			equalInts(t, "KindOf "+textOf(row), []int64{impl.KindOf(row)}, []int64{want})
			wantRow(t, row)
		}
	}
	equalInts(t, "no message", []int64{impl.KindOf(nil), impl.KindOf([]int64{}), impl.KindOf([]int64{10}), impl.KindOf([]int64{9, -1}), impl.KindOf(repeated(49, 9))}, repeated(5, 0))
	equalInts(t, "of a kind", []int64{impl.KindOf([]int64{9}), impl.KindOf([]int64{1, 1000000000}), impl.KindOf(repeated(48, 8))}, []int64{9, 1, 8})
	wantRow(t, nil)
}

// goodLetters are the rows of valid messages of every kind, with their fields at the limits.
func goodLetters() [][]int64 {
	good := [][]int64{
		{2, 2, 1, 1, 1}, {2, 5, 2000, 2000, 2000}, {2, 3, 1, 0, 2000}, {2, 4, 1999, 0, 2000}, {2, 4, 2, 9, 2},
		{3, 1}, {3, 2}, {3, 3}, {3, 2000}, {3, 2001}, {5, 1}, {5, 2}, {5, 3}, {5, 2000}, {8, 2}, {8, 3},
		{4, 0, 0}, {4, 0, 1}, {4, 2000, 2000}, {4, 0, 2000}, {4, 3, 9},
		{6, 2, 1, 0, 0}, {6, 5, 2000, 9, 2000}, {6, 4, 3, 5, 7}, {6, 3, 1, 2, 2},
		{7, 2, 1, 0, 0, 0}, {7, 5, 2000, 2000, 1, 999}, {7, 3, 1, 0, 1, 0}, {7, 4, 7, 40, 1, 5},
		{9, 0, 0, 0, 0, 0}, {9, 2000, 1000000, 3, 1000, 1001000}, {9, 3, 8, 2, 1, 28, 4, 5, 2, 9}, {9, 7, 1, 0, 4, 5, 20, 1000000},
		{9, 4, 4, 3, 4, 5, 1, 0, 2, 0, 3, 0, 4, 0, 5, 0, 6, 0, 7, 0, 8, 0}, {9, 2, 2, 2, 2, 2, 2, 2},
	}
	for i, o := range goodOps() {
		good = append(good, slices.Concat([]int64{1, 2 + int64(i)%4, 1 + 1999*(int64(i)%2)}, o))
	}
	for many := range 4 {
		for _, first := range []int64{1, 5, 2001 - int64(many)} {
			list := manyEntries(many, first)
			good = append(good, append([]int64{4}, feedWith(first-1, first-1+int64(many), list...)...))
			good = append(good, append([]int64{4}, feedWith(0, 2000, list...)...))
		}
	}
	return append(good, append([]int64{4}, feedWith(1, 60, entryOf(2, 3, 4, 5, 3, 20, 1000000, 9, 999), entryOf(3, 1000000, 2, 2000, 4, 1, 1000, 0, 0))...))
}

// Every valid message is decoded from its row alone: not as another kind, not with one number less
// or more at any place, and not with two of them exchanged, unless that is a valid message too.
func TestRowsThatAreNearlyLetters(t *testing.T) {
	kinds := map[int64]int{}
	for _, row := range goodLetters() {
		kinds[row[0]]++
		wantGood(t, row[0], row[1:]...)
		for kind := range int64(12) {
			wantRow(t, numberAt(row, 0, kind))
		}
		for i := range row {
			wantRow(t, row[:i])
			wantRow(t, slices.Delete(slices.Clone(row), i, i+1))
			for _, x := range []int64{0, 1, 2, row[i], -1, 1000000001} {
				wantRow(t, slices.Insert(slices.Clone(row), i, x))
				wantRow(t, slices.Insert(slices.Clone(row), i+1, x))
			}
			if i > 0 {
				swapped := slices.Clone(row)
				swapped[i-1], swapped[i] = swapped[i], swapped[i-1]
				wantRow(t, swapped)
			}
		}
	}
	if len(kinds) != 9 {
		t.Errorf("messages of %d kinds", len(kinds))
	}
}

// Every valid message with each of its numbers changed.
func TestLettersWithChangedNumbers(t *testing.T) {
	for _, row := range goodLetters() {
		for i, old := range row {
			for _, x := range append(someNumbers(), old-1, old+1, 1001000, 1001001) {
				changed := numberAt(row, i, x)
				if i > 0 {
					wantLetter(t, row[0], changed[1:]...)
				} else {
					wantRow(t, changed)
				}
			}
		}
	}
}

// Every row of up to five small numbers, and of up to two further ones behind it for the kinds that
// are longer.
func TestEveryShortRowAsLetter(t *testing.T) {
	many := 0
	var try func(row []int64, left int)
	try = func(row []int64, left int) {
		wantRow(t, row)
		many++
		if left == 0 {
			return
		}
		for _, x := range []int64{0, 1, 2, 3} {
			try(append(slices.Clone(row), x), left-1)
		}
	}
	for first := range int64(11) {
		try([]int64{first}, 5)
	}
	try([]int64{7, 2, 1}, 4)
	try([]int64{1, 2, 1, 1}, 5)
	try([]int64{9, 1, 2}, 5)
	try([]int64{9, 0, 0, 0, 0, 0, 1}, 5)
	if many < 15000 {
		t.Errorf("%d rows", many)
	}
}

// randomLetter returns the row of a valid message.
func randomLetter(r *rand.Rand) []int64 {
	client, seq, index := 2+r.Int63n(4), 1+r.Int63n(2000), 1+r.Int63n(2000)
	switch kind := 1 + r.Int63n(9); kind {
	case 1:
		return slices.Concat([]int64{1, client, seq}, randomEntry(r)[4:])
	case 2:
		if last := seq + r.Int63n(2001-seq); last > seq {
			return []int64{2, client, seq, 0, last}
		}
		return []int64{2, client, seq, index, seq}
	case 4:
		base := r.Int63n(2001)
		last := base + r.Int63n(2001-base)
		many := r.Int63n(min(3, last-base) + 1)
		row, time := []int64{4, base, last}, r.Int63n(100)
		first := base + 1 + r.Int63n(last-base-many+1)
		for i := range many {
			numbers := randomEntry(r)
			numbers[0], numbers[1] = first+i, time
			time += r.Int63n(2)
			row = append(row, numbers...)
		}
		return row
	case 6:
		return []int64{6, client, seq, r.Int63n(10), index}
	case 7:
		has := r.Int63n(2)
		return []int64{7, client, seq, index, has, has * r.Int63n(1000)}
	case 8:
		return []int64{8, 2 + r.Int63n(2)}
	case 9:
		row := []int64{9, index, r.Int63n(1000001), []int64{0, 2, 3}[r.Intn(3)], r.Int63n(1001), r.Int63n(1001001)}
		var open [][]int64
		for _, id := range r.Perm(20)[:r.Intn(9)] {
			open = append(open, []int64{int64(id) + 1, r.Int63n(5)})
		}
		slices.SortFunc(open, func(a, b []int64) int { return int(100*(a[1]-b[1]) + a[0] - b[0]) })
		return append(row, slices.Concat(open...)...)
	default:
		return []int64{kind, index}
	}
}

// Promise 11: random messages are decoded as they were encoded, no two of them have the same row, and
// their rows with something changed are decoded as what they then are, if anything.
func TestRandomLettersAreDecodedFromTheirRows(t *testing.T) {
	r := rand.New(rand.NewSource(11))
	for range 20000 {
		row := randomLetter(r)
		wantGood(t, row[0], row[1:]...)
		i := r.Intn(len(row))
		for _, x := range []int64{row[i] - 1, row[i] + 1, r.Int63n(12), -row[i], r.Int63()} {
			wantRow(t, numberAt(row, i, x))
		}
		wantRow(t, slices.Delete(slices.Clone(row), i, i+1))
		wantRow(t, slices.Insert(slices.Clone(row), i, r.Int63n(5)))
		if t.Failed() {
			t.Fatalf("for %v", row)
		}
	}
}

// A part of a message of one kind is put behind the beginning of another one.
func TestMixedRowsAsLetters(t *testing.T) {
	r := rand.New(rand.NewSource(110))
	good := 0
	for range 40000 {
		one, other := randomLetter(r), randomLetter(r)
		row := slices.Concat(one[:r.Intn(len(one)+1)], other[r.Intn(len(other)+1):])
		wantRow(t, row)
		for _, k := range letterKinds() {
			if _, ok := k.decode(row); ok {
				good++
			}
		}
		if t.Failed() {
			t.Fatalf("for %v and %v", one, other)
		}
	}
	if good < 1000 {
		t.Errorf("%d of the rows are messages", good)
	}
}

// dueInts returns the numbers of open jobs.
func dueInts(open []impl.Due) []int64 { return jobsInts(impl.Jobs{Open: open})[5:] }

// roomyOpen returns open jobs with spare capacity that is in use elsewhere, and the whole array.
func roomyOpen(open []impl.Due) ([]impl.Due, []impl.Due) {
	whole := append(slices.Clone(open), impl.Due{Id: 91, Due: 92}, impl.Due{Id: 93, Due: 94})
	return whole[:len(open)], whole
}

// wipedOpen overwrites open jobs and their spare capacity.
func wipedOpen(open []impl.Due) {
	open = open[:cap(open)]
	for i := range open {
		open[i] = impl.Due{Id: -9, Due: -9}
	}
}

func TestEncodedLettersAreApart(t *testing.T) {
	for _, row := range append(goodLetters(), append([]int64{4}, feedWith(0, 2000, manyEntries(4, 1)...)...), append([]int64{9}, jobsWith(4, 9, 2, 5)...)) {
		f := row[1:]
		k := letterKinds()[row[0]-1]
		one, other := k.encode(f), k.encode(f)
		want := slices.Clone(one)
		wiped(one)
		equalInts(t, k.name+"Row, an earlier result wiped", other, want)
		equalInts(t, k.name+"Row again", k.encode(f), want)
		switch row[0] {
		case 4:
			entries, whole := roomyEntries(feedOf(f).Entries)
			before := slices.Clone(whole)
			feed := impl.Feed{Base: f[0], Last: f[1], Entries: entries}
			impl.FeedOk(feed)
			encoded := impl.FeedRow(feed)
			wiped(impl.FeedRow(feed))
			equalEntries(t, "FeedOk or FeedRow has changed its argument", whole, before)
			wipedEntries(whole)
			equalInts(t, "FeedRow, its argument wiped", encoded, want)
		case 9:
			open, whole := roomyOpen(jobsOf(f).Open)
			before := dueInts(whole)
			jobs := jobsOf(f)
			jobs.Open = open
			impl.JobsOk2(jobs)
			encoded := impl.JobsRow(jobs)
			wiped(impl.JobsRow(jobs))
			equalInts(t, "JobsOk2 or JobsRow has changed its argument", dueInts(whole), before)
			wipedOpen(whole)
			equalInts(t, "JobsRow, its argument wiped", encoded, want)
		}
	}
}

func TestDecodedLettersAreApart(t *testing.T) {
	rows := append(goodLetters(), nil, repeated(48, 9), repeated(49, 9), []int64{4, 2, 1}, []int64{9, 3, 8, 2, 1, 28, 4, 9, 2, 5})
	for i, row := range rows {
		s, whole := roomy(row...)
		unchanged(t, "KindOf", whole, func() { impl.KindOf(s) })
		for _, k := range letterKinds() {
			unchanged(t, "Row"+k.name, whole, func() { k.decode(s) })
		}
		feed, isFeed := impl.RowFeed(s)
		jobs, isJobs := impl.RowJobs(s)
		otherFeed, _ := impl.RowFeed(s)
		otherJobs, _ := impl.RowJobs(s)
		wantFeed, wantJobs := feedInts(feed), jobsInts(jobs)
		wiped(whole)
		what := "row " + strconv.Itoa(i) + ", "
		equalInts(t, what+"RowFeed, its argument wiped", feedInts(feed), wantFeed)
		equalInts(t, what+"RowJobs, its argument wiped", jobsInts(jobs), wantJobs)
		wipedEntries(feed.Entries)
		wipedOpen(jobs.Open)
		equalInts(t, what+"RowFeed, an earlier result wiped", feedInts(otherFeed), wantFeed)
		equalInts(t, what+"RowJobs, an earlier result wiped", jobsInts(otherJobs), wantJobs)
		if isFeed && isJobs {
			t.Errorf("row %v is two messages", row)
		}
		again, _ := roomy(row...)
		got, ok := impl.RowFeed(again)
		wantIs(t, what+"RowFeed again", ok, isFeed)
		equalInts(t, what+"RowFeed again", feedInts(got), wantFeed)
	}
}
