package tests

import (
	"math"
	"math/rand"
	"slices"
	"strconv"
	"testing"

	"loop.example/g00851/impl"
)

// ackWith returns an acknowledgment.
func ackWith(client, seq, index, last int64) impl.Ack {
	return impl.Ack{Client: client, Seq: seq, Index: index, Last: last}
}

// ackByEntry returns the acknowledgment of a valid entry.
func ackByEntry(e impl.Entry) impl.Ack { return ackWith(e.Client, e.Seq, e.Index, e.Seq) }

// putAsk returns a request to store a value.
func putAsk(client, seq, value int64) impl.Ask {
	return impl.Ask{Client: client, Seq: seq, Op: opOf(1, 1, value, 0, 0)}
}

// entryAsked returns the entry of a request.
func entryAsked(index, time int64, a impl.Ask) impl.Entry {
	return impl.Entry{Index: index, Time: time, Client: a.Client, Seq: a.Seq, Op: a.Op}
}

// isFull reports whether a disk takes no further write.
func isFull(x impl.Two) bool { return max(len(x.A.Wait), len(x.B.Wait)) >= 60 }

// nextHeadByHand returns the head after a valid one that forgets the entries of the book up to index.
func nextHeadByHand(h impl.Head, b impl.Book, index int64) impl.Head {
	e, _ := entryByHand(b, index)
	seen, _ := overByHand(h.Seen, keptByHand(b.Entries, func(i int64) bool { return i <= index }))
	return headOf(h.Num+1, index, e.Time, seen...)
}

// nodeOf returns a valid node of a head and the entries after it, which are synced up to durable; a
// base above 0 is that of the next head. The disks have all of it.
func nodeOf(h impl.Head, list []impl.Entry, durable, base int64) impl.LogNode {
	n := impl.LogNode{Head: h, Book: bookOf(h.Base, h.Time, list...), Durable: durable}
	n.Seen, _ = overByHand(h.Seen, list)
	n.Two = withHead(blankKept(), onBoth, h)
	if base > 0 {
		n.More, n.Next = true, nextHeadByHand(h, n.Book, base)
		n.Two = wroteByHand(n.Two, n.Next.Num%2, headRowByHand(n.Next))
	}
	for _, e := range list {
		if e.Index <= durable {
			n.Two = withEntries(n.Two, onBoth, e)
		} else {
			n.Two = wroteByHand(n.Two, slotByHand(e.Index), slotRowByHand(e))
			n.Owe = append(n.Owe, ackByEntry(e))
		}
	}
	return n
}

// nodeAt returns a node of the log of which all these tests have a part: the head at base, the entries
// after it up to last, those up to durable synced, and the next head at next if it is above 0.
func nodeAt(num, base, durable, last, next int64) impl.LogNode {
	return nodeOf(headAt(num, base), logTo(last)[base:], durable, next)
}

// fallenNode returns a node that has nothing but its disks.
func fallenNode(x impl.Two) impl.LogNode { return impl.LogNode{Two: x} }

// withTwo returns a node with other disks.
func withTwo(n impl.LogNode, x impl.Two) impl.LogNode {
	n.Two = x
	return n
}

// crammed returns a node with so many more writes that wait on A and on B.
func crammed(n impl.LogNode, a, b int) impl.LogNode {
	return withTwo(n, impl.Two{A: waiting(n.Two.A, manyWrites(a, 22)...), B: waiting(n.Two.B, manyWrites(b, 22)...)})
}

// The definition of a valid node.

func keptByHandOk(x impl.Two) bool {
	for _, d := range []impl.Disk{x.A, x.B} {
		for _, w := range d.Wait {
			if w.At < 0 || w.At > 21 || !rowByHand(w.Row) {
				return false
			}
		}
		if len(d.Kept) != 22 || len(d.Wait) > 60 || slices.ContainsFunc(d.Kept, func(row []int64) bool { return !rowByHand(row) }) {
			return false
		}
	}
	return true
}

func rowByHand(row []int64) bool {
	return len(row) <= 48 && !slices.ContainsFunc(row, func(x int64) bool { return x < 0 || x > 1000000000 })
}

func nextByHandOk(n impl.LogNode) bool {
	if !n.More {
		return same(n.Next, impl.Head{})
	}
	if !headOkByHand(n.Next) || n.Next.Base <= n.Head.Base || n.Next.Base > n.Durable {
		return false
	}
	return same(n.Next, nextHeadByHand(n.Head, n.Book, n.Next.Base))
}

func logByHandOk(n impl.LogNode) bool {
	if !keptByHandOk(n.Two) || !headOkByHand(n.Head) || !bookOkByHand(n.Book) || n.Book.Base != n.Head.Base || n.Book.Time != n.Head.Time {
		return false
	}
	seen, fresh := overByHand(n.Head.Seen, n.Book.Entries)
	if !fresh || !same(n.Seen, seen) || n.Durable < n.Book.Base || n.Durable > lastByHand(n.Book) {
		return false
	}
	var owe []impl.Ack
	for _, e := range keptByHand(n.Book.Entries, func(i int64) bool { return i > n.Durable }) {
		owe = append(owe, ackByEntry(e))
	}
	return same(n.Owe, owe) && nextByHandOk(n)
}

// The definitions of what a valid node does.

func askedByHand(n impl.LogNode, a impl.Ask, now int64) (impl.LogNode, []impl.Ack) {
	m := markByHand(n.Seen, a.Client)
	last := lastByHand(n.Book)
	switch {
	case !askByHand(askInts(a)) || !isTime(now):
		return n, nil
	case a.Seq < m.Seq:
		return n, []impl.Ack{ackWith(a.Client, a.Seq, 0, m.Seq)}
	case a.Seq == m.Seq && m.Index <= n.Durable:
		return n, []impl.Ack{ackWith(a.Client, a.Seq, m.Index, a.Seq)}
	case a.Seq == m.Seq || len(n.Book.Entries) == 20 || last == 2000 || isFull(n.Two):
		return n, nil
	}
	e := entryAsked(last+1, max(now, timeByHand(n.Book)), a)
	n = cloned(n)
	n.Two = wroteByHand(n.Two, slotByHand(e.Index), slotRowByHand(e))
	n.Book.Entries = append(n.Book.Entries, e)
	n.Seen, _ = overByHand(n.Seen, []impl.Entry{e})
	n.Owe = append(n.Owe, ackByEntry(e))
	return n, nil
}

func feedByNode(n impl.LogNode, from int64) impl.Feed {
	if from < 1 || from > 2001 {
		return impl.Feed{}
	}
	part := keptByHand(n.Book.Entries, func(i int64) bool { return i >= from && i <= n.Durable })
	return impl.Feed{Base: n.Head.Base, Last: n.Durable, Entries: part[:min(3, len(part))]}
}

func trimAskedByHand(n impl.LogNode, index int64) impl.LogNode {
	if n.More || index <= n.Head.Base || index > n.Durable || isFull(n.Two) {
		return n
	}
	n.More, n.Next = true, nextHeadByHand(n.Head, n.Book, index)
	n.Two = wroteByHand(n.Two, n.Next.Num%2, headRowByHand(n.Next))
	return n
}

func syncedLogByHand(n impl.LogNode) (impl.LogNode, []impl.Ack) {
	told := n.Owe
	n.Two, n.Durable, n.Owe = bothSyncedByHand(n.Two), lastByHand(n.Book), nil
	if n.More {
		n.Head, n.Next, n.More = n.Next, impl.Head{}, false
		n.Book, _ = trimmedByHand(n.Book, n.Head.Base)
	}
	return n, told
}

func risenByHand(x impl.Two) (impl.LogNode, bool) {
	if !keptByHandOk(x) {
		return impl.LogNode{}, false
	}
	synced := bothSyncedByHand(x)
	h, is := headInByHand(synced)
	if !is {
		return impl.LogNode{}, false
	}
	book := bookInByHand(synced, h)
	n := nodeOf(h, book.Entries, lastByHand(book), 0)
	n.Two = recoveredDisks(h, book.Entries)
	return n, true
}

// pickyNode has a head with the marks of two clients, and entries with great steps of Seq and Time.
func pickyNode(durable, base int64) impl.LogNode {
	h := headOf(1, 6, 30, marksOf(3, 7, 6, 5, 1998, 2)...)
	return nodeOf(h, []impl.Entry{
		entryOf(7, 30, 5, 1999, 1, 9, 999, 0, 0), entryOf(8, 500, 2, 40, 2, 0, 0, 0, 0), entryOf(9, 500, 5, 2000, 3, 20, lastTime, 9, 999),
		entryOf(10, 999999, 3, 2000, 4, 20, 1000, 0, 0), entryOf(11, lastTime, 2, 41, 5, 1000, 0, 0, 0),
	}, durable, base)
}

// goodLogs are valid: with no, one, some, Ring - 1 and Ring entries, none, some and all of them synced,
// with and without a next head, up to the last index, after a crash, and with other disks.
func goodLogs() []impl.LogNode {
	good := []impl.LogNode{
		nodeAt(0, 0, 0, 0, 0), nodeAt(0, 0, 0, 1, 0), nodeAt(0, 0, 1, 1, 0), nodeAt(0, 0, 1, 1, 1), nodeAt(0, 0, 2, 5, 0), nodeAt(0, 0, 5, 5, 0), nodeAt(0, 0, 5, 8, 5), nodeAt(0, 0, 5, 8, 1),
		nodeAt(0, 0, 0, 19, 0), nodeAt(0, 0, 19, 19, 0), nodeAt(0, 0, 0, 20, 0), nodeAt(0, 0, 11, 20, 0), nodeAt(0, 0, 20, 20, 0), nodeAt(0, 0, 20, 20, 20), nodeAt(0, 0, 19, 20, 9),
		nodeAt(1, 4, 4, 4, 0), nodeAt(1, 4, 4, 6, 0), nodeAt(1, 4, 9, 12, 0), nodeAt(1, 4, 9, 12, 7), nodeAt(1, 4, 9, 12, 9), nodeAt(7, 7, 8, 8, 8), nodeAt(0, 33, 40, 53, 34),
		nodeAt(2, 1980, 1999, 1999, 0), nodeAt(2, 1980, 1998, 1999, 1990), nodeAt(2, 1980, 2000, 2000, 0), nodeAt(2, 1985, 1990, 2000, 0), nodeAt(9, 1985, 1999, 2000, 1999), nodeAt(9, 1999, 2000, 2000, 2000), nodeAt(1999, 1999, 1999, 1999, 0), nodeAt(2000, 2000, 2000, 2000, 0),
		pickyNode(6, 0), pickyNode(7, 7), pickyNode(9, 8), pickyNode(11, 0), pickyNode(11, 10),
		nodeOf(headOf(0, 1, lastTime, markOf(2, 2000, 1)), nil, 1, 0),
	}
	for _, x := range keptDisks() {
		good = append(good, fallenNode(x), withTwo(nodeAt(1, 4, 9, 12, 7), x))
	}
	plain, many := nodeAt(1, 4, 9, 9, 0), nodeAt(1, 4, 9, 12, 0)
	return append(good, crammed(plain, 59, 59), crammed(plain, 60, 0), crammed(plain, 0, 60), crammed(plain, 60, 60), crammed(many, 56, 57), crammed(many, 57, 3), crammed(many, 57, 57))
}

// otherNumbers are numbers beside a given one, and those that hardly any field may have.
func otherNumbers(old int64) []int64 {
	return []int64{old - 1, old + 1, old - 20, old + 20, old + 1<<32, -old, 0, 1, 2, 3, 4, 5, 12, -1, 2000, 2001, lastTime, lastTime + 1, impl.MaxNum, impl.MaxNum + 1, math.MinInt64, math.MaxInt64}
}

// fewNumbers are less of them, where there are many fields.
func fewNumbers(old int64) []int64 {
	return []int64{old - 1, old + 1, -1, 0, math.MinInt64, math.MaxInt64}
}

// badLogs are not valid: each field of a few valid ones is changed by itself, and they have disks,
// heads, books and tables that are not valid.
func badLogs() []impl.LogNode {
	var bad []impl.LogNode
	take := func(_ string, n impl.LogNode) {
		if !logByHandOk(n) {
			bad = append(bad, cloned(n))
		}
	}
	for _, n := range []impl.LogNode{nodeAt(0, 0, 1, 2, 0), nodeAt(1, 4, 9, 12, 7), pickyNode(9, 8)} {
		changesOf(n, fewNumbers, take)
	}
	n := nodeAt(1, 4, 9, 12, 0)
	for _, x := range badKept() {
		bad = append(bad, withTwo(n, x), fallenNode(x))
	}
	for i, h := range badHeads() {
		if i%50 == 0 {
			take("", impl.LogNode{Two: n.Two, Head: h, Book: bookOf(h.Base, h.Time), Seen: h.Seen, Durable: h.Base})
		}
	}
	for i, b := range badBooks() {
		if i%10 == 0 {
			take("", impl.LogNode{Two: n.Two, Head: headOf(0, b.Base, b.Time), Book: b, Durable: b.Base})
		}
	}
	return bad
}

func TestLogOkOfGoodLogs(t *testing.T) {
	for i, n := range goodLogs() {
		wantIs(t, "the definition of good log "+strconv.Itoa(i), logByHandOk(n), true)
		wantIs(t, "LogOk of good log "+strconv.Itoa(i), impl.LogOk(n), true)
	}
	for _, x := range badKept() {
		wantIs(t, "LogOk of disks that are not accepted", impl.LogOk(fallenNode(x)), false)
	}
	wantIs(t, "LogOk of the zero node", impl.LogOk(impl.LogNode{}), false)
}

func TestNewLog(t *testing.T) {
	n := impl.NewLog()
	wantEqual(t, "NewLog", n, fallenNode(impl.NewKept()))
	wantEqual(t, "NewLog", n, nodeAt(0, 0, 0, 0, 0))
	wantIs(t, "LogOk of NewLog", impl.LogOk(n), true)
	wantEqual(t, "HeldIn of NewLog", impl.HeldIn(n), nil)
	wantMemoryApart(t, "NewLog", nil, []any{n, impl.NewLog()})
}

// Each number, each bool and each slice of a node changed by itself, with the limits of all fields.
func TestLogOkWithEachFieldChanged(t *testing.T) {
	count := map[bool]int{}
	for i, n := range goodLogs()[:35] {
		disks := n.Two
		n.Two = impl.Two{}
		changesOf(n, func(old int64) []int64 { return append(someNumbers(), otherNumbers(old)...) }, func(what string, changed impl.LogNode) {
			changed.Two = disks
			want := logByHandOk(changed)
			count[want]++
			if impl.LogOk(changed) != want {
				t.Errorf("LogOk of good log %d, %s: got %v: %+v", i, what, !want, changed)
			}
		})
	}
	if count[true] < 10 || count[false] < 100000 {
		t.Errorf("too few nodes are valid or too few are not: %v", count)
	}
	for _, n := range []impl.LogNode{nodeAt(1, 4, 9, 12, 7), fallenNode(keptDisks()[4])} {
		changesOf(n.Two, otherNumbers, func(what string, x impl.Two) {
			changed := withTwo(n, x)
			wantIs(t, "LogOk with disks, "+what, impl.LogOk(changed), logByHandOk(changed))
		})
	}
	for _, n := range badLogs() {
		wantIs(t, "LogOk of a bad log", impl.LogOk(n), false)
	}
}

// wantLogOk fails the test if LogOk or its definition is not as wanted.
func wantLogOk(t *testing.T, what string, n impl.LogNode, want bool) {
	t.Helper()
	wantIs(t, "LogOk of "+what, impl.LogOk(n), want)
	wantIs(t, "the definition of "+what, logByHandOk(n), want)
}

func TestLogOkOfDurable(t *testing.T) {
	for _, next := range []int64{0, 7} {
		for durable := int64(2); durable <= 14; durable++ {
			n, list := nodeAt(1, 4, 9, 12, next), logTo(12)
			n.Durable = durable
			wantLogOk(t, "another Durable", n, durable == 9)
			// What is owed is that of the entries behind it.
			n.Owe = nil
			for _, e := range list[min(12, max(4, durable)):] {
				n.Owe = append(n.Owe, ackByEntry(e))
			}
			wantLogOk(t, "another Durable and Owe", n, durable >= max(4, next) && durable <= 12)
		}
	}
	for _, x := range wildNumbers() {
		n := nodeAt(1, 4, 9, 12, 0)
		n.Durable = x
		wantLogOk(t, "a wild Durable", n, false)
		n.Owe = nil
		wantLogOk(t, "a wild Durable with nothing owed", n, false)
	}
}

func TestLogOkOfHeadAndBook(t *testing.T) {
	n := nodeAt(1, 4, 9, 12, 0)
	for num := int64(-1); num <= 6; num++ {
		n.Head.Num = num
		wantLogOk(t, "another Num", n, num >= 0 && num <= 4)
	}
	for _, c := range []struct {
		h       impl.Head
		b       impl.Book
		durable int64
		is      bool
	}{
		{headOf(1, 4, 9, markOf(4, 2, 4)), bookOf(4, 9), 4, true}, {headOf(1, 4, 9, markOf(4, 2, 4)), bookOf(4, 8), 4, false}, {headOf(1, 4, 9, markOf(4, 2, 4)), bookOf(4, 10), 4, false},
		{headOf(1, 4, 9, markOf(4, 2, 4)), bookOf(5, 9), 4, false}, {headOf(1, 4, 9, markOf(4, 2, 4)), bookOf(5, 9), 5, false}, {headOf(1, 4, 9, markOf(4, 2, 4)), bookOf(3, 9), 4, false}, {headOf(1, 4, 9, markOf(4, 2, 4)), bookOf(3, 9), 3, false}, {headOf(1, 4, 9, markOf(4, 2, 4)), bookOf(0, 0), 4, false}, {headOf(1, 4, 9, markOf(4, 2, 4)), bookOf(0, 0), 0, false},
		{headOf(0, 4, 0, markOf(4, 2, 4)), bookOf(4, 0), 4, true}, {headOf(0, 4, lastTime, markOf(4, 2, 4)), bookOf(4, lastTime), 4, true}, {headOf(0, 4, lastTime+1, markOf(4, 2, 4)), bookOf(4, lastTime+1), 4, false},
		{headOf(0, 4, 9), bookOf(4, 9), 4, false}, {headOf(0, 4, 9, markOf(4, 2, 3)), bookOf(4, 9), 4, false}, {headOf(5, 4, 9, markOf(4, 2, 4)), bookOf(4, 9), 4, false},
		// entries that follow, that are early, or whose requests are recorded in the head
		{headOf(1, 4, 9, markOf(4, 2, 4)), bookOf(4, 9, entryOf(5, 9, 4, 3, 2, 4, 0, 0, 0)), 5, true}, {headOf(1, 4, 9, markOf(4, 2, 4)), bookOf(4, 9, entryOf(5, 9, 4, 2, 2, 4, 0, 0, 0)), 5, false}, {headOf(1, 4, 9, markOf(4, 2, 4)), bookOf(4, 9, entryOf(5, 9, 4, 1, 2, 4, 0, 0, 0)), 5, false},
		{headOf(1, 4, 9, markOf(4, 2, 4)), bookOf(4, 9, entryOf(5, 8, 4, 3, 2, 4, 0, 0, 0)), 5, false}, {headOf(1, 4, 9, markOf(4, 2, 4)), bookOf(4, 9, entryOf(6, 9, 4, 3, 2, 4, 0, 0, 0)), 5, false}, {headOf(1, 4, 9, markOf(4, 2, 4)), bookOf(4, 9, entryOf(4, 9, 4, 3, 2, 4, 0, 0, 0)), 5, false},
		{headOf(1, 4, 9, markOf(4, 2, 4)), bookOf(4, 9, entryOf(5, 9, 5, 1, 2, 4, 0, 0, 0), entryOf(6, 9, 5, 2, 2, 4, 0, 0, 0)), 6, true}, {headOf(1, 4, 9, markOf(4, 2, 4)), bookOf(4, 9, entryOf(5, 9, 5, 1, 2, 4, 0, 0, 0), entryOf(6, 9, 5, 1, 2, 4, 0, 0, 0)), 6, false}, {headOf(1, 4, 9, markOf(4, 2, 4)), bookOf(4, 9, entryOf(5, 9, 5, 2, 2, 4, 0, 0, 0), entryOf(6, 9, 5, 1, 2, 4, 0, 0, 0)), 6, false},
	} {
		seen, _ := overByHand(c.h.Seen, c.b.Entries)
		wantLogOk(t, "the head "+headText(c.h)+" and the book "+bookText(c.b), impl.LogNode{Two: n.Two, Head: c.h, Book: c.b, Seen: seen, Durable: c.durable}, c.is)
	}
	for _, s := range append(goodTables(), badTables()...) {
		n := nodeAt(1, 4, 9, 12, 0)
		n.Seen = s
		wantLogOk(t, "other marks", n, false)
		n = fallenNode(n.Two)
		n.Seen = s
		wantLogOk(t, "marks without entries", n, len(s) == 0)
	}
}

func TestLogOkOfNext(t *testing.T) {
	plain, list := nodeAt(1, 4, 9, 12, 0), logTo(12)
	for base := int64(0); base <= 12; base++ {
		for num := int64(0); num <= 4; num++ {
			n := plain
			seen, _ := overByHand(nil, list[:base])
			time := int64(0)
			if base > 0 {
				time = list[base-1].Time
			}
			n.Next = headOf(num, base, time, seen...)
			wantLogOk(t, "a next head without More", n, base == 0 && num == 0)
			n.More = true
			is := num == 2 && base > 4 && base <= 9
			wantLogOk(t, "a next head "+headText(n.Next), n, is)
			n.Next.Time++
			wantLogOk(t, "a late next head", n, false)
			n.Next.Time -= 2
			wantLogOk(t, "an early next head", n, false)
			n.Next.Time++
			for _, other := range []int64{base - 1, base + 1, 4, 12} {
				if other >= 0 && other <= 12 && other != base {
					n.Next.Seen, _ = overByHand(nil, list[:other])
					wantLogOk(t, "a next head with other marks", n, false)
				}
			}
			for i := range seen {
				n.Next.Seen = marksWith(seen, i, 1, seen[i].Seq+1)
				wantLogOk(t, "a next head with another mark", n, false)
			}
		}
	}
	// The Head itself but for its Num, and but for a Base at which the book has no entry.
	for base := int64(0); base <= 4; base++ {
		n := plain
		n.More, n.Next = true, headOf(2, base, n.Head.Time, n.Head.Seen...)
		wantLogOk(t, "a next head that forgets less", n, false)
	}
	plain.More = true
	wantLogOk(t, "More without a next head", plain, false)
	n := nodeAt(1, 4, 9, 12, 7)
	n.More = false
	wantLogOk(t, "a next head without More", n, false)
	n.Next.Seen = nil
	wantLogOk(t, "a next head without marks and without More", n, false)
	n = nodeAt(0, 0, 1, 1, 1)
	n.Next = headOf(1, 0, 0)
	wantLogOk(t, "a next head with the same Base", n, false)
}

func TestLogOkOfOwe(t *testing.T) {
	plain := nodeAt(1, 4, 9, 12, 7)
	first, second, third := plain.Owe[0], plain.Owe[1], plain.Owe[2]
	fourth := ackByEntry(logTo(9)[8])
	for _, c := range []struct {
		owe []impl.Ack
		is  bool
	}{
		{[]impl.Ack{first, second, third}, true}, {nil, false}, {[]impl.Ack{}, false}, {[]impl.Ack{first, second}, false}, {[]impl.Ack{second, third}, false}, {[]impl.Ack{first, third}, false},
		{[]impl.Ack{first, second, third, third}, false}, {[]impl.Ack{first, first, second, third}, false}, {[]impl.Ack{fourth, first, second, third}, false}, {[]impl.Ack{first, second, third, {}}, false}, {[]impl.Ack{{}, first, second, third}, false},
		{[]impl.Ack{second, first, third}, false}, {[]impl.Ack{first, third, second}, false}, {[]impl.Ack{third, second, first}, false}, {[]impl.Ack{first, second, first}, false}, {[]impl.Ack{fourth, second, third}, false}, {[]impl.Ack{{}, {}, {}}, false},
		{[]impl.Ack{ackWith(first.Client, first.Seq, 0, first.Seq+1), second, third}, false}, {[]impl.Ack{first, second, ackWith(third.Client, third.Seq, third.Index, third.Seq+1)}, false}, {slices.Repeat([]impl.Ack{first}, 4000), false},
	} {
		n := plain
		n.Owe = c.owe
		wantLogOk(t, "what is owed", n, c.is)
	}
	n := nodeAt(1, 4, 9, 9, 0)
	for _, owe := range [][]impl.Ack{{{}}, {fourth}, {first}} {
		n.Owe = owe
		wantLogOk(t, "what is owed for nothing", n, false)
	}
	n.Owe = []impl.Ack{}
	wantLogOk(t, "nothing owed", n, true)
}

func TestAckOf(t *testing.T) {
	wantEqual(t, "AckOf", impl.AckOf(entryOf(4, 3, 5, 6, 2, 2, 0, 0, 0)), ackWith(5, 6, 4, 6))
	for _, numbers := range goodEntries() {
		ack := impl.AckOf(entryOf(numbers...))
		wantEqual(t, "AckOf "+textOf(numbers), ack, ackWith(numbers[2], numbers[3], numbers[0], numbers[3]))
		wantIs(t, "AckOk of AckOf", impl.AckOk(ack), true)
	}
	for _, e := range badEntries() {
		wantEqual(t, "AckOf "+textOf(entryInts(e)), impl.AckOf(e), impl.Ack{})
	}
}

// wantAsked fails the test if a request leaves another node or sends anything else.
func wantAsked(t *testing.T, n impl.LogNode, a impl.Ask, now int64, want impl.LogNode, acks ...impl.Ack) {
	t.Helper()
	got, told := impl.AskedOf(n, a, now)
	what := "AskedOf " + textOf(append(askInts(a), now))
	wantEqual(t, what, got, want)
	wantEqual(t, what+", what it sends", told, acks)
	wantIs(t, what+", LogOk of the node", impl.LogOk(got), logByHandOk(n))
}

func TestAskedOf(t *testing.T) {
	n := impl.NewLog()
	// A first request has any Seq, and is recorded at its time.
	one := entryAsked(1, 30, putAsk(5, 3, 8))
	want := nodeOf(impl.Head{}, []impl.Entry{one}, 0, 0)
	wantAsked(t, n, putAsk(5, 3, 8), 30, want)
	wantEqual(t, "what is owed", want.Owe, []impl.Ack{ackWith(5, 3, 1, 3)})
	n = want
	// The example: the request is older, and then the same one, whose entry is not durable.
	wantAsked(t, n, putAsk(5, 2, 8), 31, n, ackWith(5, 2, 0, 3))
	wantAsked(t, n, putAsk(5, 1, 9), 31, n, ackWith(5, 1, 0, 3))
	wantAsked(t, n, putAsk(5, 3, 8), 31, n)
	// A now that is below, at and above the time of the last entry.
	for _, c := range [][2]int64{{0, 30}, {29, 30}, {30, 30}, {31, 31}, {lastTime, lastTime}} {
		two := entryAsked(2, c[1], putAsk(4, 1, 9))
		wantAsked(t, n, putAsk(4, 1, 9), c[0], nodeOf(impl.Head{}, []impl.Entry{one, two}, 0, 0))
		two = entryAsked(2, c[1], putAsk(5, 4, 9))
		wantAsked(t, n, putAsk(5, 4, 9), c[0], nodeOf(impl.Head{}, []impl.Entry{one, two}, 0, 0))
	}
	two := entryAsked(2, 30, putAsk(4, 1, 9))
	n, _ = impl.AskedOf(n, putAsk(4, 1, 9), 7)
	n, told := impl.SyncedLog(n)
	wantEqual(t, "the acknowledgments of two requests", told, []impl.Ack{ackWith(5, 3, 1, 3), ackWith(4, 1, 2, 1)})
	wantEqual(t, "two requests, synced", n, nodeOf(impl.Head{}, []impl.Entry{one, two}, 2, 0))
	// The entries are durable, so that the acknowledgments are sent again.
	wantAsked(t, n, putAsk(5, 3, 8), 0, n, ackWith(5, 3, 1, 3))
	wantAsked(t, n, putAsk(5, 3, 777), lastTime, n, ackWith(5, 3, 1, 3))
	wantAsked(t, n, putAsk(4, 1, 9), 31, n, ackWith(4, 1, 2, 1))
	wantAsked(t, n, putAsk(5, 2, 8), 31, n, ackWith(5, 2, 0, 3))
	// A request that is much later leaves all between them behind it.
	three := entryAsked(3, 40, putAsk(5, 2000, 1))
	wantAsked(t, n, putAsk(5, 2000, 1), 40, nodeOf(impl.Head{}, []impl.Entry{one, two, three}, 2, 0))
	n, _ = impl.AskedOf(n, putAsk(5, 2000, 1), 40)
	for _, seq := range []int64{1, 2, 3, 4, 1999} {
		wantAsked(t, n, putAsk(5, seq, 8), 41, n, ackWith(5, seq, 0, 2000))
	}
	wantAsked(t, n, putAsk(5, 2000, 1), 41, n)
	wantAsked(t, n, putAsk(4, 1, 9), 41, n, ackWith(4, 1, 2, 1))
}

// The requests of the head's marks are answered as those in the book.
func TestAskedOfForgottenRequests(t *testing.T) {
	n := pickyNode(9, 8)
	wantAsked(t, n, putAsk(3, 6, 0), 600, n, ackWith(3, 6, 0, 2000))
	wantAsked(t, n, putAsk(5, 2000, 0), 600, n, ackWith(5, 2000, 9, 2000))
	wantAsked(t, n, putAsk(5, 1998, 0), 600, n, ackWith(5, 1998, 0, 2000))
	wantAsked(t, n, putAsk(2, 41, 0), 600, n)
	wantAsked(t, n, putAsk(2, 40, 0), 600, n, ackWith(2, 40, 0, 41))
	n = nodeOf(n.Head, nil, 6, 0)
	wantAsked(t, n, putAsk(3, 7, 0), 600, n, ackWith(3, 7, 6, 7))
	wantAsked(t, n, putAsk(5, 1998, 0), 600, n, ackWith(5, 1998, 2, 1998))
	wantAsked(t, n, putAsk(5, 1, 0), 600, n, ackWith(5, 1, 0, 1998))
	wantAsked(t, n, putAsk(4, 1, 0), 0, nodeOf(n.Head, []impl.Entry{entryAsked(7, 30, putAsk(4, 1, 0))}, 6, 0))
}

// The limits of the book, of the index, and of the writes that wait.
func TestAskedOfWithoutRoom(t *testing.T) {
	a := putAsk(4, 1000, 5)
	for _, c := range []struct {
		n  impl.LogNode
		is bool
	}{
		{nodeAt(0, 0, 0, 19, 0), true}, {nodeAt(0, 0, 0, 20, 0), false}, {nodeAt(0, 0, 20, 20, 0), false}, {nodeAt(0, 0, 20, 20, 20), false}, {nodeAt(1, 4, 9, 23, 0), true}, {nodeAt(1, 4, 24, 24, 9), false},
		{nodeAt(2, 1985, 1990, 1998, 0), true}, {nodeAt(2, 1985, 1990, 1999, 0), true}, {nodeAt(2, 1985, 1990, 2000, 0), false}, {nodeAt(2, 1985, 2000, 2000, 0), false}, {nodeAt(2, 2000, 2000, 2000, 0), false}, {nodeAt(2, 1999, 1999, 1999, 0), true}, {nodeAt(2, 1979, 1999, 1999, 0), false}, {nodeAt(2, 1980, 1999, 1999, 0), true},
		{crammed(nodeAt(1, 4, 9, 9, 0), 59, 59), true}, {crammed(nodeAt(1, 4, 9, 9, 0), 60, 0), false}, {crammed(nodeAt(1, 4, 9, 9, 0), 0, 60), false}, {crammed(nodeAt(1, 4, 9, 9, 0), 60, 60), false}, {crammed(nodeAt(1, 4, 9, 10, 7), 57, 57), true}, {crammed(nodeAt(1, 4, 9, 10, 7), 58, 57), false},
	} {
		want, acks := askedByHand(c.n, a, 900)
		wantAsked(t, c.n, a, 900, want, acks...)
		wantIs(t, "AskedOf records an entry", len(want.Owe) > len(c.n.Owe), c.is)
		if !c.is {
			wantAsked(t, c.n, a, 900, c.n)
		}
	}
}

// Requests and times that are not valid.
func TestAskedOfNothing(t *testing.T) {
	for _, n := range []impl.LogNode{nodeAt(0, 0, 0, 0, 0), nodeAt(1, 4, 9, 12, 7), pickyNode(9, 0)} {
		wantAsked(t, n, impl.Ask{}, 40, n)
		for _, now := range notTimes() {
			for _, seq := range []int64{1, 2, 3, 40, 500} {
				wantAsked(t, n, putAsk(2, seq, 1), now, n)
				wantAsked(t, n, putAsk(5, seq, 1), now, n)
			}
		}
		for _, x := range append(someClients(), 0, 1, 6) {
			if !isClient(x) {
				wantAsked(t, n, putAsk(x, 1, 1), 40, n)
				wantAsked(t, n, putAsk(x, 0, 1), 40, n)
			}
		}
		for _, x := range someSeqs() {
			if !isSeq(x) {
				wantAsked(t, n, putAsk(4, x, 1), 40, n)
				wantAsked(t, n, putAsk(3, x, 1), 40, n)
			}
		}
		for i, o := range badOps() {
			if i%7 == 0 {
				wantAsked(t, n, askOf(append([]int64{4, 1, 0}[:2], o...)), 40, n)
				wantAsked(t, n, askOf(append([]int64{4, 1500}, o...)), 40, n)
			}
		}
	}
}

// Every kind of operation becomes that of the entry.
func TestAskedOfEveryOperation(t *testing.T) {
	n := nodeAt(1, 4, 9, 12, 7)
	for i, o := range goodOps() {
		a := askOf(append([]int64{2 + int64(i)%4, 2000}, o...))
		want, _ := askedByHand(n, a, int64(i))
		wantAsked(t, n, a, int64(i), want)
		e := want.Book.Entries[8]
		wantEqual(t, "the entry", e, entryAsked(13, max(int64(i), 11), a))
	}
}

// All nodes, with requests before, at and after the marks, at times around that of the book.
func TestAskedOfEverywhere(t *testing.T) {
	for _, n := range goodLogs() {
		time := timeByHand(n.Book)
		for client := int64(1); client <= 6; client++ {
			m := markByHand(n.Seen, client)
			for i, seq := range []int64{0, 1, m.Seq - 1, m.Seq, m.Seq + 1, m.Seq + 7, 2000, 2001} {
				nows := []int64{-1, 0, time - 1, time, time + 1, lastTime, lastTime + 1, math.MinInt64, math.MaxInt64}
				now := nows[(i+int(client))%len(nows)]
				for _, now := range []int64{now, time, time + 1} {
					a := putAsk(client, seq, seq&511)
					want, acks := askedByHand(n, a, now)
					wantAsked(t, n, a, now, want, acks...)
				}
			}
		}
	}
}

func TestHeldIn(t *testing.T) {
	list := logTo(12)
	for _, c := range []struct {
		n    impl.LogNode
		list []impl.Entry
	}{
		{nodeAt(0, 0, 0, 0, 0), nil}, {nodeAt(0, 0, 0, 3, 0), nil}, {nodeAt(0, 0, 1, 3, 0), list[:1]}, {nodeAt(0, 0, 3, 3, 0), list[:3]},
		{nodeAt(1, 4, 4, 4, 0), nil}, {nodeAt(1, 4, 4, 12, 0), nil}, {nodeAt(1, 4, 5, 12, 0), list[4:5]}, {nodeAt(1, 4, 9, 12, 7), list[4:9]}, {nodeAt(1, 4, 12, 12, 12), list[4:12]},
	} {
		equalEntries(t, "HeldIn", impl.HeldIn(c.n), c.list)
	}
	for _, n := range goodLogs() {
		equalEntries(t, "HeldIn", impl.HeldIn(n), keptByHand(n.Book.Entries, func(i int64) bool { return i <= n.Durable }))
	}
}

func TestFeedFrom(t *testing.T) {
	list := logTo(2000)
	for _, c := range []struct {
		n          impl.LogNode
		from       int64
		base, last int64
		list       []impl.Entry
	}{
		// no entries, and none that is durable
		{nodeAt(0, 0, 0, 0, 0), 1, 0, 0, nil}, {nodeAt(0, 0, 0, 4, 0), 1, 0, 0, nil}, {nodeAt(0, 0, 0, 4, 0), 2001, 0, 0, nil}, {nodeAt(1, 4, 4, 9, 0), 5, 4, 4, nil}, {nodeAt(1, 4, 4, 4, 0), 1, 4, 4, nil},
		// the example
		{nodeAt(0, 0, 2, 2, 0), 2, 0, 2, list[1:2]},
		// no, one, two, three and four entries at or behind it
		{nodeAt(1, 4, 9, 12, 0), 5, 4, 9, list[4:7]}, {nodeAt(1, 4, 9, 12, 0), 6, 4, 9, list[5:8]}, {nodeAt(1, 4, 9, 12, 0), 7, 4, 9, list[6:9]}, {nodeAt(1, 4, 9, 12, 0), 8, 4, 9, list[7:9]}, {nodeAt(1, 4, 9, 12, 0), 9, 4, 9, list[8:9]},
		{nodeAt(1, 4, 9, 12, 0), 10, 4, 9, nil}, {nodeAt(1, 4, 9, 12, 0), 12, 4, 9, nil}, {nodeAt(1, 4, 9, 12, 0), 13, 4, 9, nil}, {nodeAt(1, 4, 9, 12, 0), 2000, 4, 9, nil}, {nodeAt(1, 4, 9, 12, 0), 2001, 4, 9, nil},
		// entries that are forgotten
		{nodeAt(1, 4, 9, 12, 7), 1, 4, 9, list[4:7]}, {nodeAt(1, 4, 9, 12, 7), 4, 4, 9, list[4:7]}, {nodeAt(1, 4, 7, 12, 7), 3, 4, 7, list[4:7]}, {nodeAt(1, 4, 6, 12, 6), 3, 4, 6, list[4:6]}, {nodeAt(1, 4, 8, 12, 6), 3, 4, 8, list[4:7]},
		// the last ones
		{nodeAt(2, 1985, 2000, 2000, 0), 2000, 1985, 2000, list[1999:]}, {nodeAt(2, 1985, 2000, 2000, 0), 2001, 1985, 2000, nil}, {nodeAt(2, 1985, 1999, 2000, 0), 1998, 1985, 1999, list[1997:1999]}, {nodeAt(2, 2000, 2000, 2000, 0), 2001, 2000, 2000, nil},
		// no index
		{nodeAt(1, 4, 9, 12, 0), 0, 0, 0, nil}, {nodeAt(1, 4, 9, 12, 0), -1, 0, 0, nil}, {nodeAt(1, 4, 9, 12, 0), 2002, 0, 0, nil}, {nodeAt(1, 4, 9, 12, 0), math.MinInt64, 0, 0, nil}, {nodeAt(1, 4, 9, 12, 0), math.MaxInt64, 0, 0, nil},
	} {
		wantEqual(t, "FeedFrom "+strconv.FormatInt(c.from, 10), impl.FeedFrom(c.n, c.from), impl.Feed{Base: c.base, Last: c.last, Entries: c.list})
	}
	for _, n := range goodLogs() {
		froms := append(wildNumbers(), -1, 0, 1, 2, 2000, 2001, 2002)
		for from := n.Head.Base - 1; from <= lastByHand(n.Book)+2; from++ {
			froms = append(froms, from)
		}
		for _, from := range froms {
			f := impl.FeedFrom(n, from)
			wantEqual(t, "FeedFrom "+strconv.FormatInt(from, 10), f, feedByNode(n, from))
			wantIs(t, "FeedOk of FeedFrom", impl.FeedOk(f), true)
		}
	}
}

// wantTrimAsked fails the test if TrimAsked leaves another node.
func wantTrimAsked(t *testing.T, n impl.LogNode, index int64, want impl.LogNode) {
	t.Helper()
	got := impl.TrimAsked(n, index)
	wantEqual(t, "TrimAsked "+strconv.FormatInt(index, 10), got, want)
	wantIs(t, "LogOk after TrimAsked "+strconv.FormatInt(index, 10), impl.LogOk(got), true)
}

func TestTrimAsked(t *testing.T) {
	// The example.
	n := nodeAt(0, 0, 5, 5, 0)
	got := impl.TrimAsked(n, 3)
	wantEqual(t, "the next head", got.Next, headOf(1, 3, 8, marksOf(2, 1, 1, 3, 1, 2, 4, 1, 3)...))
	wantTrimAsked(t, n, 3, nodeAt(0, 0, 5, 5, 3))
	// below, at and above Base, and at and above Durable
	n = nodeAt(1, 4, 9, 12, 0)
	for index := int64(-1); index <= 14; index++ {
		want := n
		if index >= 5 && index <= 9 {
			want = nodeAt(1, 4, 9, 12, index)
			// The head is the last one that was written.
			want.Two = wroteByHand(n.Two, 0, headRowByHand(want.Next))
			wantEqual(t, "the next head", want.Next, headAt(2, index))
		}
		wantTrimAsked(t, n, index, want)
		// twice without a sync between
		wantTrimAsked(t, nodeAt(1, 4, 9, 12, 5), index, nodeAt(1, 4, 9, 12, 5))
		wantTrimAsked(t, impl.TrimAsked(n, 7), index, impl.TrimAsked(n, 7))
	}
	// a disk that takes no further write, and one that takes one
	for _, c := range []struct {
		a, b int
		is   bool
	}{{59, 59, true}, {60, 0, false}, {0, 60, false}, {60, 60, false}, {59, 0, true}, {59, 60, false}} {
		n := crammed(nodeAt(1, 4, 9, 9, 0), c.a, c.b)
		wantTrimAsked(t, n, 7, trimAskedByHand(n, 7))
		wantIs(t, "TrimAsked is possible", impl.TrimAsked(n, 7).More, c.is)
	}
	// the greatest numbers that a head can have
	wantEqual(t, "the last head", impl.TrimAsked(nodeAt(1999, 1999, 2000, 2000, 0), 2000).Next, headAt(2000, 2000))
	wantEqual(t, "a head with all marks", impl.TrimAsked(pickyNode(11, 0), 11).Next, headOf(2, 11, lastTime, marksOf(2, 41, 11, 3, 2000, 10, 5, 2000, 9)...))
	for _, n := range goodLogs() {
		indices := append(wildNumbers(), 0, 1, 2000, 2001)
		for index := n.Head.Base - 1; index <= lastByHand(n.Book)+1; index++ {
			indices = append(indices, index)
		}
		for _, index := range indices {
			wantTrimAsked(t, n, index, trimAskedByHand(n, index))
		}
	}
}

// wantSyncedLog fails the test if a sync leaves another node or sends anything else.
func wantSyncedLog(t *testing.T, what string, n, want impl.LogNode, acks ...impl.Ack) {
	t.Helper()
	got, told := impl.SyncedLog(n)
	wantEqual(t, "SyncedLog: "+what, got, want)
	wantEqual(t, "SyncedLog, what it sends: "+what, told, acks)
	wantIs(t, "LogOk after SyncedLog: "+what, impl.LogOk(got), true)
}

func TestSyncedLog(t *testing.T) {
	list := logTo(2000)
	wantSyncedLog(t, "a new log", impl.NewLog(), impl.NewLog())
	wantSyncedLog(t, "nothing owed", nodeAt(1, 4, 9, 9, 0), nodeAt(1, 4, 9, 9, 0))
	wantSyncedLog(t, "one owed", nodeAt(1, 4, 9, 10, 0), nodeAt(1, 4, 10, 10, 0), ackByEntry(list[9]))
	wantSyncedLog(t, "three owed", nodeAt(1, 4, 9, 12, 0), nodeAt(1, 4, 12, 12, 0), ackByEntry(list[9]), ackByEntry(list[10]), ackByEntry(list[11]))
	wantSyncedLog(t, "all owed", nodeAt(0, 0, 0, 2, 0), nodeAt(0, 0, 2, 2, 0), ackWith(2, 1, 1, 1), ackWith(3, 1, 2, 1))
	// The head and the entries that are forgotten remain on the disks.
	old := withHead(nodeAt(2, 7, 12, 12, 0).Two, onBoth, headAt(1, 4))
	old = withEntries(old, onBoth, list[4:7]...)
	wantSyncedLog(t, "a next head", nodeAt(1, 4, 9, 12, 7), withTwo(nodeAt(2, 7, 12, 12, 0), old), ackByEntry(list[9]), ackByEntry(list[10]), ackByEntry(list[11]))
	wantSyncedLog(t, "a next head alone", nodeAt(1, 4, 12, 12, 7), withTwo(nodeAt(2, 7, 12, 12, 0), old))
	old = withEntries(withHead(nodeAt(1, 20, 20, 20, 0).Two, onBoth, impl.Head{}), onBoth, list[:20]...)
	wantSyncedLog(t, "a next head after all entries", nodeAt(0, 0, 20, 20, 20), withTwo(nodeAt(1, 20, 20, 20, 0), old))
	for i, n := range goodLogs() {
		want, acks := syncedLogByHand(n)
		wantSyncedLog(t, "good log "+strconv.Itoa(i), n, want, acks...)
		wantSyncedLog(t, "again", want, want)
	}
}

// someFates keep all, none and some writes of both disks; they are too few, as many, and too many.
func someFates(many int) [][]int64 {
	all := [][]int64{nil, {}, {1}, {0, 1}, {2, 1, 1}, {math.MinInt64, math.MaxInt64, 3, 1}}
	for _, fate := range []int64{0, 1, 2} {
		for _, count := range []int{2*many - 1, 2 * many, 2*many + 1, 130} {
			all = append(all, repeated(max(0, count), fate))
		}
	}
	r := rand.New(rand.NewSource(int64(many)))
	for range 8 {
		fates := make([]int64, r.Intn(2*many+3))
		for i := range fates {
			fates[i] = r.Int63n(3)
		}
		all = append(all, fates)
	}
	return all
}

// wantRisen fails the test if a node does not rise from its disks as wanted, or if it does so in
// another way where its other fields are another node's.
func wantRisen(t *testing.T, what string, n impl.LogNode) {
	t.Helper()
	want, is := risenByHand(n.Two)
	got, ok := impl.RisenLog(n)
	wantIs(t, "RisenLog: "+what, ok, is)
	wantEqual(t, "RisenLog: "+what, got, want)
	wantIs(t, "LogOk after RisenLog: "+what, impl.LogOk(got), is)
}

func TestFallenLogAndRisenLog(t *testing.T) {
	for i, n := range goodLogs() {
		many := max(len(n.Two.A.Wait), len(n.Two.B.Wait))
		for _, fates := range someFates(many) {
			what := "good log " + strconv.Itoa(i) + " with " + textOf(fates)
			fallen := impl.FallenLog(n, fates)
			wantEqual(t, "FallenLog: "+what, fallen, fallenNode(bothFallenByHand(n.Two, fates)))
			wantIs(t, "LogOk after FallenLog: "+what, impl.LogOk(fallen), true)
			wantRisen(t, what, fallen)
		}
		// A node that has not fallen rises as well: its writes are kept.
		wantRisen(t, "good log "+strconv.Itoa(i), n)
	}
}

func TestRisenLog(t *testing.T) {
	// The example: two synced entries and a third one.
	n := nodeAt(0, 0, 2, 3, 0)
	for _, fates := range smallRows(3, 3) {
		two, three := nodeAt(0, 0, 2, 2, 0), nodeAt(0, 0, 3, 3, 0)
		two.Two, three.Two = recoveredDisks(impl.Head{}, logTo(2)), recoveredDisks(impl.Head{}, logTo(3))
		want := two
		if len(fates) > 0 && fates[0] == impl.FtKept || len(fates) > 1 && fates[1] == impl.FtKept {
			want = three
		}
		got, ok := impl.RisenLog(impl.FallenLog(n, fates))
		wantIs(t, "RisenLog", ok, true)
		wantEqual(t, "RisenLog with "+textOf(fates), got, want)
	}
	// A head that is not synced: its entries are forgotten if it is kept on one disk.
	for _, fates := range [][]int64{nil, {0, 0}, {1}, {0, 1}, {1, 1}, {2, 2}, {2, 0}, {2, 1}, {0, 2}, {1, 2}} {
		want := nodeAt(1, 4, 9, 9, 0)
		if slices.Contains(fates, impl.FtKept) {
			want = nodeAt(2, 7, 9, 9, 0)
		}
		want.Two = recoveredDisks(want.Head, want.Book.Entries)
		got, ok := impl.RisenLog(impl.FallenLog(nodeAt(1, 4, 9, 9, 7), fates))
		wantIs(t, "RisenLog", ok, true)
		wantEqual(t, "RisenLog with a next head and "+textOf(fates), got, want)
	}
}

// The other fields are ignored, whatever they are; disks with no head leave nothing.
func TestRisenLogOfOtherFields(t *testing.T) {
	disks := append(keptDisks(), someOf(badKept(), 3)...)
	bad := badLogs()
	for i, x := range disks {
		want, is := risenByHand(x)
		for k := i; k < len(bad); k += len(disks) * 3 {
			got, ok := impl.RisenLog(withTwo(bad[k], x))
			wantIs(t, "RisenLog of other fields", ok, is)
			wantEqual(t, "RisenLog of other fields", got, want)
		}
		for _, n := range []impl.LogNode{{}, nodeAt(1, 4, 9, 12, 7), {More: true, Durable: math.MinInt64, Owe: []impl.Ack{{}}}} {
			wantRisen(t, "other fields", withTwo(n, x))
		}
	}
	for _, x := range []impl.Two{{}, blankKept(), withEntries(blankKept(), onBoth, logTo(20)...), withRow(blankKept(), onBoth, 1, headRowByHand(impl.Head{}))} {
		for _, n := range []impl.LogNode{{}, nodeAt(1, 4, 9, 12, 7)} {
			got, ok := impl.RisenLog(withTwo(n, x))
			wantIs(t, "RisenLog of disks without a head", ok, false)
			wantEqual(t, "RisenLog of disks without a head", got, impl.LogNode{})
		}
	}
}

// wantSameLog fails the test if SameLog is not as wanted, both ways.
func wantSameLog(t *testing.T, what string, a, b impl.LogNode, want bool) {
	t.Helper()
	wantAlike(t, "SameLog, "+what, impl.SameLog, a, b, want)
}

func TestSameLog(t *testing.T) {
	good := goodLogs()
	for i, n := range good {
		wantSameLog(t, "a copy of good log "+strconv.Itoa(i), n, cloned(n), true)
		for _, other := range good {
			wantSameLog(t, "two good logs", n, other, same(n, other))
		}
	}
	for _, n := range []impl.LogNode{nodeAt(1, 4, 9, 12, 7), nodeAt(0, 0, 2, 2, 0), pickyNode(9, 8), fallenNode(keptDisks()[13]), {}, crammed(nodeAt(0, 0, 0, 1, 0), 3, 4)} {
		changesOf(n, otherNumbers, func(what string, changed impl.LogNode) {
			if impl.SameLog(n, changed) || impl.SameLog(changed, n) || !impl.SameLog(changed, changed) {
				t.Errorf("SameLog does not tell the node apart from the one with %s", what)
			}
		})
	}
	for i, n := range badLogs() {
		wantSameLog(t, "a copy of bad log "+strconv.Itoa(i), n, cloned(n), true)
	}
	// Nil and empty are equivalent; a row that is missing and an empty row are not.
	empty := impl.LogNode{Two: impl.Two{A: impl.Disk{Kept: [][]int64{}, Wait: []impl.Write{}}, B: impl.Disk{Kept: [][]int64{}, Wait: []impl.Write{}}}, Head: impl.Head{Seen: []impl.Mark{}}, Next: impl.Head{Seen: []impl.Mark{}}, Book: impl.Book{Entries: []impl.Entry{}}, Seen: []impl.Mark{}, Owe: []impl.Ack{}}
	wantSameLog(t, "nil and empty", empty, impl.LogNode{}, true)
	wantSameLog(t, "an empty row", fallenNode(impl.Two{A: diskOf(nil)}), fallenNode(impl.Two{A: diskOf([]int64{})}), true)
	wantSameLog(t, "an empty row", fallenNode(impl.Two{A: diskOf(nil)}), fallenNode(impl.Two{}), false)
	one, other := keptDisks()[0].A, keptDisks()[3].A
	wantSameLog(t, "the disks exchanged", fallenNode(impl.Two{A: one, B: other}), fallenNode(impl.Two{A: other, B: one}), false)
}

// Of a node that is not valid nothing is returned, but by RisenLog.
func TestBadLogs(t *testing.T) {
	asks := []impl.Ask{putAsk(4, 1, 2), putAsk(2, 1500, 2), {}, putAsk(5, 2, 7), putAsk(1, 1, 1)}
	bad := append(badLogs(), impl.LogNode{})
	for i, n := range bad {
		for k, now := range []int64{0, 40, -1, math.MaxInt64} {
			got, acks := impl.AskedOf(n, asks[(i+k)%len(asks)], now)
			wantEqual(t, "AskedOf of a bad log", got, impl.LogNode{})
			wantEqual(t, "AskedOf of a bad log, what it sends", acks, nil)
		}
		for _, index := range []int64{1, 5, n.Durable, n.Head.Base + 1, math.MinInt64, 0} {
			wantEqual(t, "FeedFrom of a bad log", impl.FeedFrom(n, index), impl.Feed{})
			wantEqual(t, "TrimAsked of a bad log", impl.TrimAsked(n, index), impl.LogNode{})
		}
		wantEqual(t, "HeldIn of a bad log", impl.HeldIn(n), nil)
		got, acks := impl.SyncedLog(n)
		wantEqual(t, "SyncedLog of a bad log", got, impl.LogNode{})
		wantEqual(t, "SyncedLog of a bad log, what it sends", acks, nil)
		for _, fates := range [][]int64{nil, {1, 1, 1, 1}, {math.MinInt64}} {
			wantEqual(t, "FallenLog of a bad log", impl.FallenLog(n, fates), impl.LogNode{})
		}
		if i%4 == 0 {
			wantRisen(t, "a bad log", n)
		}
	}
}

// A service is a log node with all that it has promised: the entries that were durable, from the first
// one on, and those of them that were acknowledged.
type service struct {
	n       impl.LogNode
	durable []impl.Entry
	told    map[int64]bool
	crashes int
	written int
}

func newService() *service { return &service{n: impl.NewLog(), told: map[int64]bool{}} }

// copied returns a service with memory of its own.
func (m *service) copied() *service {
	c := service{n: m.n, durable: slices.Clone(m.durable), told: map[int64]bool{}, crashes: m.crashes, written: m.written}
	for index := range m.told {
		c.told[index] = true
	}
	return &c
}

// settle takes over a node: what is durable now was either durable before or comes next.
func (m *service) settle(t *testing.T, what string, n impl.LogNode) {
	t.Helper()
	m.n = n
	for _, e := range n.Book.Entries {
		if e.Index <= n.Durable && e.Index == int64(len(m.durable))+1 {
			m.durable = append(m.durable, e)
		}
	}
	m.check(t, what)
}

// check fails the test if the node is not valid, if anything that was durable is lost or changed, or if
// a request is recorded twice.
func (m *service) check(t *testing.T, what string) {
	t.Helper()
	n := m.n
	if !impl.LogOk(n) || n.Durable != int64(len(m.durable)) {
		t.Fatalf("%s: the node is not valid or has lost what was durable up to %d: %+v", what, len(m.durable), n)
	}
	for _, e := range m.durable {
		got, is := impl.EntryAt(n.Book, e.Index)
		mark := markByHand(n.Head.Seen, e.Client)
		forgotten := e.Index <= n.Head.Base && (mark.Seq == e.Seq && mark.Index == e.Index || mark.Seq > e.Seq && mark.Index > e.Index)
		if is && got != e || !is && !forgotten {
			t.Fatalf("%s: entry %v is lost, told %v: %+v", what, e, m.told[e.Index], n)
		}
	}
	last := map[int64]int64{}
	for _, e := range append(slices.Clone(m.durable), n.Book.Entries[n.Durable-n.Book.Base:]...) {
		if e.Seq <= last[e.Client] {
			t.Fatalf("%s: request %d of client %d is recorded twice: %+v", what, e.Seq, e.Client, n)
		}
		last[e.Client] = e.Seq
	}
}

// hear checks the acknowledgments that are sent: those with an index are of durable entries.
func (m *service) hear(t *testing.T, what string, acks []impl.Ack) {
	t.Helper()
	for _, a := range acks {
		if !impl.AckOk(a) || a.Index > int64(len(m.durable)) {
			t.Fatalf("%s: %v is sent, but %d is the last durable entry", what, a, len(m.durable))
		}
		if a.Index > 0 {
			if e := m.durable[a.Index-1]; ackByEntry(e) != a {
				t.Fatalf("%s: %v is sent of %v", what, a, e)
			}
			m.told[a.Index] = true
		}
	}
}

// ask makes a request, whose value tells how many there have been before it.
func (m *service) ask(t *testing.T, client, seq, now int64) {
	t.Helper()
	a := putAsk(client, seq, int64(m.written)%1000)
	want, acks := askedByHand(m.n, a, now)
	if len(want.Owe) > len(m.n.Owe) {
		m.written++
	}
	n, told := impl.AskedOf(m.n, a, now)
	what := "AskedOf " + textOf([]int64{client, seq, now})
	wantEqual(t, what, n, want)
	wantEqual(t, what, told, acks)
	m.settle(t, what, n)
	m.hear(t, what, told)
}

// next makes the next request of a client.
func (m *service) next(t *testing.T, client, now int64) {
	t.Helper()
	m.ask(t, client, markByHand(m.n.Seen, client).Seq+1, now)
}

func (m *service) trim(t *testing.T, index int64) {
	t.Helper()
	want := trimAskedByHand(m.n, index)
	n := impl.TrimAsked(m.n, index)
	wantEqual(t, "TrimAsked", n, want)
	m.settle(t, "TrimAsked", n)
}

// sync syncs the node; an acknowledgment is sent for each entry that was not durable.
func (m *service) sync(t *testing.T) {
	t.Helper()
	want, acks := syncedLogByHand(m.n)
	n, told := impl.SyncedLog(m.n)
	wantEqual(t, "SyncedLog", n, want)
	wantEqual(t, "SyncedLog", told, acks)
	first := len(m.durable)
	m.settle(t, "SyncedLog", n)
	m.hear(t, "SyncedLog", told)
	wantIs(t, "one acknowledgment for each entry", len(told) == len(m.durable)-first, true)
	wantIs(t, "no write waits after a sync", impl.SafeIn(n.Two.A) && impl.SafeIn(n.Two.B), true)
}

// crash lets the node fall and rise, with a number of disk B damaged between if damage is set.
func (m *service) crash(t *testing.T, fates []int64, damage func(d impl.Disk) impl.Disk) {
	t.Helper()
	fallen := impl.FallenLog(m.n, fates)
	what := "a crash with " + textOf(fates)
	wantEqual(t, what, fallen, fallenNode(bothFallenByHand(m.n.Two, fates)))
	if damage != nil {
		fallen.Two.B = damage(fallen.Two.B)
	}
	n, is := impl.RisenLog(fallen)
	want, _ := risenByHand(fallen.Two)
	wantIs(t, "RisenLog after "+what, is, true)
	wantEqual(t, "RisenLog after "+what, n, want)
	m.crashes++
	m.settle(t, what, n)
	// What a restart has found it finds again.
	again, _ := impl.RisenLog(n)
	wantEqual(t, "RisenLog again after "+what, again, n)
}

// Up to three writes of entries and heads in each order, after none and after many synced entries, with
// every fate that they can have on both disks.
func TestLogWithEveryFate(t *testing.T) {
	for _, order := range []string{"", "a", "t", "aa", "at", "ta", "aat", "ata", "taa", "aaa"} {
		for _, synced := range []int64{3, 17} {
			m := newService()
			for i := range synced {
				m.next(t, 2+i%3, i)
			}
			m.trim(t, 1)
			m.sync(t)
			m.trim(t, 1)
			m.sync(t)
			for i, step := range order {
				if step == 'a' {
					m.next(t, 3+int64(i%3), 5)
				} else {
					m.trim(t, 2)
				}
			}
			if len(m.n.Two.A.Wait) != len(order) {
				t.Fatalf("%s: not all of it waits: %+v", order, m.n)
			}
			if synced == 17 && len(order) == 3 && order != "ata" {
				continue
			}
			for _, fates := range smallRows(2*len(order), 2) {
				if len(fates) == 2*len(order) {
					m.copied().crash(t, fates, nil)
				}
			}
		}
	}
}

// A crash after each number of writes, with fates that keep all, none and some of them, and are too few
// and too many; after it the same requests are made again, and all are answered once.
func TestLogWithACrashAfterEachWrite(t *testing.T) {
	for many := range 22 {
		m := newService()
		for i := range 6 {
			m.next(t, 2+int64(i%4), int64(i))
		}
		m.sync(t)
		m.trim(t, 5)
		for i := range many - 1 {
			m.next(t, 2+int64(i%4), int64(10+i))
		}
		if many == 0 {
			m.sync(t)
		}
		for _, fates := range someFates(many) {
			c := m.copied()
			asked := c.n.Book.Entries
			c.crash(t, fates, nil)
			for _, e := range asked {
				c.ask(t, e.Client, e.Seq, e.Time)
			}
			c.sync(t)
			for _, e := range asked {
				c.ask(t, e.Client, e.Seq, e.Time)
			}
			for _, e := range asked {
				if !c.told[e.Index] && e.Index > 6 && e.Seq == markByHand(c.n.Seen, e.Client).Seq {
					t.Fatalf("after %d writes and a crash with %v: request %v is not answered", many, fates, e)
				}
			}
		}
	}
}

// step does something at random: requests that are fresh, repeated and old, syncs, trims, crashes, and
// damage to disk B.
func (m *service) step(t *testing.T, r *rand.Rand) {
	t.Helper()
	client := 2 + r.Int63n(4)
	seq := markByHand(m.n.Seen, client).Seq
	now := timeByHand(m.n.Book) + r.Int63n(9) - 4
	damage := func(d impl.Disk) impl.Disk { return damaged(r, d) }
	switch r.Intn(20) {
	case 0:
		fates := make([]int64, r.Intn(2*len(m.n.Two.A.Wait)+3))
		for i := range fates {
			fates[i] = r.Int63n(3)
		}
		m.crash(t, fates, damage)
	case 1:
		m.crash(t, repeated(60, r.Int63n(3)), nil)
	case 2, 3, 4:
		m.sync(t)
	case 5, 6:
		m.trim(t, m.n.Head.Base+r.Int63n(m.n.Durable-m.n.Head.Base+2))
	case 7:
		m.ask(t, client, seq, now)
	case 8:
		m.ask(t, client, seq-r.Int63n(3), now)
	case 9:
		m.ask(t, client, seq+2+r.Int63n(3), now)
	default:
		m.next(t, client, now)
	}
	wantEqual(t, "HeldIn", impl.HeldIn(m.n), m.durable[m.n.Head.Base:])
	from := r.Int63n(m.n.Durable+3) + 1
	wantEqual(t, "FeedFrom", impl.FeedFrom(m.n, from), feedByNode(m.n, from))
}

func TestLogAtRandom(t *testing.T) {
	crashes, durable, base := 0, 0, int64(0)
	for seed := range int64(16) {
		r := rand.New(rand.NewSource(seed))
		m := newService()
		for range 220 {
			m.step(t, r)
			if t.Failed() {
				t.Fatalf("seed %d", seed)
			}
		}
		crashes, durable, base = crashes+m.crashes, durable+len(m.durable), base+m.n.Head.Base
	}
	if crashes < 200 || durable < 800 || base < 600 {
		t.Errorf("too little has happened: %d crashes, %d entries, %d forgotten", crashes, durable, base)
	}
}

// A log that goes on until its last index.
func TestLogToItsEnd(t *testing.T) {
	n := impl.NewLog()
	for index := int64(1); index <= 2000; index++ {
		next, acks := impl.AskedOf(n, putAsk(2+index%4, 1+index/4, index%1000), index/3)
		if len(acks) != 0 || lastByHand(next.Book) != index {
			t.Fatalf("entry %d is not recorded: %+v", index, next)
		}
		n = next
		if index%7 == 0 {
			next, acks = impl.SyncedLog(n)
			if len(acks) != 7 || next.Durable != index {
				t.Fatalf("%d acknowledgments at %d", len(acks), index)
			}
			n = impl.TrimAsked(next, index-1)
		}
	}
	n, _ = impl.SyncedLog(n)
	wantLogOk(t, "a log at its end", n, true)
	for client := int64(2); client <= 5; client++ {
		wantAsked(t, n, putAsk(client, 2000, 1), lastTime, n)
		m := markByHand(n.Seen, client)
		wantAsked(t, n, putAsk(client, m.Seq, 1), lastTime, n, ackWith(client, m.Seq, m.Index, m.Seq))
	}
	n = impl.TrimAsked(n, 2000)
	n, _ = impl.SyncedLog(n)
	wantEqual(t, "all is forgotten", n.Book, bookOf(2000, 666))
	wantEqual(t, "a feed of nothing", impl.FeedFrom(n, 2001), impl.Feed{Base: 2000, Last: 2000})
	risen, is := impl.RisenLog(impl.FallenLog(n, nil))
	wantIs(t, "RisenLog of a log at its end", is, true)
	wantEqual(t, "the marks of a log at its end", risen.Seen, n.Seen)
}

// logCalls are the functions of this chapter that take a node. They return all that the function does.
func logCalls() map[string]func(n impl.LogNode, a impl.Ask, x int64, fates []int64) []any {
	return map[string]func(n impl.LogNode, a impl.Ask, x int64, fates []int64) []any{
		"LogOk": func(n impl.LogNode, _ impl.Ask, _ int64, _ []int64) []any { return []any{impl.LogOk(n)} },
		"AskedOf": func(n impl.LogNode, a impl.Ask, x int64, _ []int64) []any {
			m, acks := impl.AskedOf(n, a, x)
			return []any{m, acks}
		},
		"HeldIn": func(n impl.LogNode, _ impl.Ask, _ int64, _ []int64) []any { return []any{impl.HeldIn(n)} },
		"FeedFrom": func(n impl.LogNode, _ impl.Ask, x int64, _ []int64) []any {
			return []any{impl.FeedFrom(n, x)}
		},
		"TrimAsked": func(n impl.LogNode, _ impl.Ask, x int64, _ []int64) []any { return []any{impl.TrimAsked(n, x)} },
		"SyncedLog": func(n impl.LogNode, _ impl.Ask, _ int64, _ []int64) []any {
			m, acks := impl.SyncedLog(n)
			return []any{m, acks}
		},
		"FallenLog": func(n impl.LogNode, _ impl.Ask, _ int64, fates []int64) []any {
			return []any{impl.FallenLog(n, fates)}
		},
		"RisenLog": func(n impl.LogNode, _ impl.Ask, _ int64, _ []int64) []any {
			m, is := impl.RisenLog(n)
			return []any{m, is}
		},
		"SameLog": func(n impl.LogNode, _ impl.Ask, _ int64, _ []int64) []any {
			return []any{impl.SameLog(n, nodeAt(1, 4, 9, 12, 7)), impl.SameLog(n, n)}
		},
	}
}

// wantLogApart fails the test if a call changes an argument, its spare capacity included, or if two
// slices of results, or one of a result and one of an argument, share memory.
func wantLogApart(t *testing.T, what string, call func(impl.LogNode, impl.Ask, int64, []int64) []any, n impl.LogNode, a impl.Ask, x int64, list []int64) {
	t.Helper()
	fates := roomyCopy(list)
	before, beforeFates := wholeCopy(n), wholeCopy(fates)
	results := append(call(n, a, x, fates), call(n, a, x, fates)...)
	wantEqual(t, what+", its argument after it", wholeCopy(n), before)
	wantEqual(t, what+", its fates after it", wholeCopy(fates), beforeFates)
	wantMemoryApart(t, what, []any{n, fates}, results)
}

func TestLogsShareNoMemory(t *testing.T) {
	bad := badLogs()
	nodes := append(goodLogs(), bad[0], bad[len(bad)/2], bad[len(bad)-1], impl.LogNode{})
	for name, call := range logCalls() {
		for i, n := range nodes {
			m := markByHand(n.Seen, 2+int64(i%4))
			for k, a := range []impl.Ask{putAsk(2+int64(i%4), m.Seq+1, 5), putAsk(2+int64(i%4), m.Seq, 5), {}} {
				for _, x := range []int64{n.Head.Base + 1, int64(900 * k)} {
					wantLogApart(t, name, call, roomyCopy(n), a, x, someFates(len(n.Two.A.Wait))[(i+k)%26])
				}
			}
		}
	}
}

// The slices of an argument may share memory; those of the result do not.
func TestLogsOfSharedMemory(t *testing.T) {
	for name, call := range logCalls() {
		for _, n := range []impl.LogNode{nodeAt(1, 4, 4, 4, 0), nodeAt(1, 4, 9, 12, 7), nodeAt(0, 0, 1, 1, 1), pickyNode(11, 11)} {
			n = roomyCopy(n)
			n.Two.B = n.Two.A
			n.Two.A.Kept[20] = n.Two.A.Kept[19]
			if same(n.Head.Seen, n.Seen) {
				n.Seen = n.Head.Seen
			}
			if same(n.Next.Seen, n.Seen) {
				n.Seen = n.Next.Seen
			}
			wantIs(t, "LogOk of shared memory", impl.LogOk(n), true)
			for _, a := range []impl.Ask{putAsk(4, 1500, 5), putAsk(4, 1, 5), {}} {
				for _, x := range []int64{0, 1, 5, 6, 7} {
					wantLogApart(t, name+" of shared memory", call, n, a, x, []int64{1, 2, 0, 1})
				}
			}
		}
	}
}
