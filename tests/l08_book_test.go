package tests

import (
	"math"
	"math/rand"
	"slices"
	"testing"

	"loop.example/g00851/impl"
)

// bookOf returns a book.
func bookOf(base, time int64, entries ...impl.Entry) impl.Book {
	return impl.Book{Base: base, Time: time, Entries: entries}
}

// cutAt returns an entry with that Index and that Time.
func cutAt(index, time int64) impl.Entry { return entryOf(index, time, 2+index&3, 1, 2, 4, 0, 0, 0) }

// bookText writes a book with all its numbers; nil and empty lists are written alike.
func bookText(b impl.Book) string {
	return textOf([]int64{b.Base, b.Time}) + " " + entriesText(b.Entries)
}

// equalBooks fails the test if got and want differ; nil and empty are equivalent.
func equalBooks(t *testing.T, what string, got, want impl.Book) {
	t.Helper()
	if bookText(got) != bookText(want) {
		t.Errorf("%s: got %s, want %s", what, bookText(got), bookText(want))
	}
}

// wantBook fails the test if a call does not return the book wanted.
func wantBook(t *testing.T, what string, got impl.Book, ok bool, want impl.Book, is bool) {
	t.Helper()
	wantIs(t, what, ok, is)
	equalBooks(t, what, got, want)
}

// clonedBook copies a book.
func clonedBook(b impl.Book) impl.Book { return bookOf(b.Base, b.Time, slices.Clone(b.Entries)...) }

// bookAfter returns a book of as many entries after base. Every three of them have an equal Time,
// the first of which is 8; the Time of the book is as late as it can be.
func bookAfter(base int64, many int) impl.Book {
	return bookOf(base, min(base, 1)*8, manyEntries(many, base+1)...)
}

// bookOkByHand reports whether a book is valid; each entry is compared with the book itself.
func bookOkByHand(b impl.Book) bool {
	if b.Base < 0 || b.Base > 2000 || !isTime(b.Time) || b.Base == 0 && b.Time > 0 || len(b.Entries) > 20 {
		return false
	}
	for i, e := range b.Entries {
		if e.Index != b.Base+int64(i)+1 || e.Time < b.Time {
			return false
		}
	}
	return entriesOkByHand(b.Entries)
}

// lastByHand returns the last index of a valid book.
func lastByHand(b impl.Book) int64 { return b.Base + int64(len(b.Entries)) }

// timeByHand returns the latest time of a valid book.
func timeByHand(b impl.Book) int64 {
	latest := b.Time
	for _, e := range b.Entries {
		latest = max(latest, e.Time)
	}
	return latest
}

// keptByHand returns the entries whose index is to be kept.
func keptByHand(list []impl.Entry, keep func(index int64) bool) []impl.Entry {
	return slices.DeleteFunc(slices.Clone(list), func(e impl.Entry) bool { return !keep(e.Index) })
}

// entryByHand returns the entry with that index of a valid book.
func entryByHand(b impl.Book, index int64) (impl.Entry, bool) {
	found := keptByHand(b.Entries, func(i int64) bool { return i == index })
	if len(found) == 0 {
		return impl.Entry{}, false
	}
	return found[0], true
}

// grownByHand returns a valid book with more entries: they can be appended if that is valid.
func grownByHand(b impl.Book, list []impl.Entry) (impl.Book, bool) {
	grown := bookOf(b.Base, b.Time, slices.Concat(b.Entries, list)...)
	if bookOkByHand(grown) {
		return grown, true
	}
	return b, false
}

// trimmedByHand returns a valid book without the entries up to index.
func trimmedByHand(b impl.Book, index int64) (impl.Book, bool) {
	e, is := entryByHand(b, index)
	if !is {
		return b, index == b.Base
	}
	return bookOf(index, e.Time, keptByHand(b.Entries, func(i int64) bool { return i > index })...), true
}

// backByHand returns a valid book without the entries after index.
func backByHand(b impl.Book, index int64) (impl.Book, bool) {
	if _, is := entryByHand(b, index); !is && index != b.Base {
		return b, false
	}
	return bookOf(b.Base, b.Time, keptByHand(b.Entries, func(i int64) bool { return i <= index })...), true
}

// partByHand returns the first many entries of a valid book from an index on.
func partByHand(b impl.Book, from, many int64) []impl.Entry {
	part := keptByHand(b.Entries, func(i int64) bool { return i >= from })
	return part[:max(0, min(many, int64(len(part))))]
}

// someIndices are indices in and around a book, and wild numbers.
func someIndices(b impl.Book) []int64 {
	indices := append(wildNumbers(), 0, 1, 2, 10, 20, 21, 1999, 2000, 2001)
	for _, x := range []int64{b.Base, lastByHand(b)} {
		indices = append(indices, x-2, x-1, x, x+1, x+2)
	}
	for i := range int64(len(b.Entries)) {
		indices = append(indices, b.Base+1+i)
	}
	slices.Sort(indices)
	return slices.Compact(indices)
}

// someCounts are numbers of entries.
func someCounts() []int64 {
	return []int64{math.MinInt64, -1 << 32, -20, -2, -1, 0, 1, 2, 3, 7, 18, 19, 20, 21, 100, 2000, 1 << 32, 1<<32 + 1, math.MaxInt64 - 1, math.MaxInt64}
}

// goodBooks are valid, among them empty ones and those with Ring entries, with a Base of 0 and above.
func goodBooks() []impl.Book {
	good := []impl.Book{
		{}, {Entries: []impl.Entry{}}, bookOf(1, 0), bookOf(1, lastTime), bookOf(2000, 0), bookOf(2000, 1), bookOf(2000, lastTime), bookOf(3, 1), bookOf(1999, 40),
		bookOf(0, 0, cutAt(1, 0)), bookOf(0, 0, cutAt(1, lastTime)), bookOf(7, 9, cutAt(8, 9)), bookOf(7, 9, cutAt(8, 10)), bookOf(7, 0, cutAt(8, lastTime)),
		bookOf(7, lastTime, cutAt(8, lastTime), cutAt(9, lastTime)), bookOf(1999, 40, cutAt(2000, 40)), bookOf(1998, 40, cutAt(1999, 40), cutAt(2000, 41)),
		bookOf(0, 0, cutAt(1, 0), cutAt(2, 0), cutAt(3, 5), cutAt(4, lastTime)), bookOf(2, 5, cutAt(3, 8), cutAt(4, 8), cutAt(5, 9)),
		bookAfter(1980, 20), bookAfter(1981, 19), bookAfter(1979, 20), bookAfter(1980, 19), bookAfter(1000, 20),
	}
	for _, many := range []int{0, 1, 2, 3, 4, 7, 18, 19, 20} {
		for _, base := range []int64{0, 1, 2, 19, 20, 40} {
			good = append(good, bookAfter(base, many))
		}
	}
	return good
}

// badBooks are not valid, for one reason each.
func badBooks() []impl.Book {
	bad := []impl.Book{
		bookOf(-1, 0), bookOf(2001, 0), bookOf(2001, 5), bookOf(0, 1), bookOf(0, -1), bookOf(0, lastTime), bookOf(0, lastTime+1), bookOf(3, -1), bookOf(3, lastTime+1),
		bookOf(0, 1, cutAt(1, 1)), bookOf(0, 1, cutAt(1, 5)), bookOf(0, -1, cutAt(1, 0)), bookOf(3, -1, cutAt(4, 0)), bookOf(3, lastTime+1, cutAt(4, lastTime)), bookOf(3, lastTime+1, cutAt(4, lastTime+1)),
		// the first Index is another one than Base + 1, and the first Time is less than Time
		bookOf(0, 0, cutAt(0, 5)), bookOf(0, 0, cutAt(2, 5)), bookOf(7, 5, cutAt(7, 5)), bookOf(7, 5, cutAt(9, 5)), bookOf(7, 5, cutAt(6, 5)), bookOf(7, 5, cutAt(1, 5)), bookOf(7, 5, cutAt(8, 4)), bookOf(7, 5, cutAt(8, 0)), bookOf(7, 5, cutAt(8, 4), cutAt(9, 5)), bookOf(7, lastTime, cutAt(8, lastTime-1)),
		bookOf(-1, 0, cutAt(0, 0)), bookOf(-1, 0, cutAt(1, 0)), bookOf(-5, 0, cutAt(1, 0)), bookOf(2000, 0, cutAt(2001, 0)), bookOf(2000, 0, cutAt(2000, 0)), bookOf(2001, 0, cutAt(2002, 0)), bookOf(1999, 3, cutAt(2000, 3), cutAt(2001, 3)), bookOf(2001, 3, cutAt(2000, 3)),
		// an Index that is skipped, repeated, and lower; a Time that is less
		bookOf(2, 5, cutAt(3, 8), cutAt(5, 8)), bookOf(2, 5, cutAt(3, 8), cutAt(3, 8)), bookOf(2, 5, cutAt(4, 8), cutAt(3, 8)), bookOf(2, 5, cutAt(3, 8), cutAt(4, 8), cutAt(3, 8)), bookOf(2, 5, cutAt(3, 8), cutAt(4, 7)), bookOf(2, 5, cutAt(3, 8), cutAt(4, 9), cutAt(5, 8)), bookOf(2, 5, cutAt(3, 8), cutAt(4, 4)), bookOf(0, 0, cutAt(1, 8), cutAt(2, 0)),
		// too many
		bookAfter(0, 21), bookAfter(1, 21), bookAfter(40, 21), bookAfter(1979, 21), bookAfter(0, 22), bookAfter(0, 40), bookAfter(7, 1000), bookAfter(0, 2000), bookAfter(1981, 20), bookAfter(1980, 21), bookAfter(0, 3000),
		bookOf(math.MaxInt64, 0, cutAt(math.MinInt64, 0)), bookOf(math.MinInt64, 0, cutAt(math.MinInt64+1, 0)),
	}
	for _, x := range wildNumbers() {
		if x < 0 || x > 2000 {
			bad = append(bad, bookOf(x, 0), bookOf(x, 5), bookOf(x, 5, cutAt(1, 5)), bookOf(x, 5, cutAt(x, 5)))
		}
		if !isTime(x) {
			bad = append(bad, bookOf(0, x), bookOf(7, x), bookOf(7, x, cutAt(8, 5)), bookOf(7, x, cutAt(8, x)))
		}
		for at := range 5 {
			for _, change := range []func(e *impl.Entry){
				func(e *impl.Entry) { e.Index = x }, func(e *impl.Entry) { e.Time = x }, func(e *impl.Entry) { e.Client = x },
				func(e *impl.Entry) { e.Seq = x }, func(e *impl.Entry) { e.Op.Kind = x }, func(e *impl.Entry) { e.Op.A = x },
			} {
				b := bookAfter(7, 5)
				change(&b.Entries[at])
				if !entryOkByHand(entryInts(b.Entries[at])) {
					bad = append(bad, b)
				}
			}
		}
	}
	for _, many := range []int{1, 2, 20} {
		b := bookAfter(7, many)
		b.Entries[many-1] = impl.Entry{}
		bad = append(bad, b)
	}
	return bad
}

func TestConstantsOfBooks(t *testing.T) {
	equalInts(t, "the limits", []int64{impl.Ring, impl.MaxIndex, impl.MaxTime}, []int64{20, 2000, 1000000})
}

func TestBookOk(t *testing.T) {
	for _, b := range goodBooks() {
		wantIs(t, "BookOk of "+bookText(b), impl.BookOk(b), true)
	}
	for _, b := range badBooks() {
		wantIs(t, "BookOk of "+bookText(b), impl.BookOk(b), false)
	}
	for _, b := range append(goodBooks(), badBooks()...) {
		wantIs(t, "the model of "+bookText(b), bookOkByHand(b), impl.BookOk(b))
	}
}

// Base, Time, the number of entries, and the first and the last entry at their limits.
func TestBookOkAtItsLimits(t *testing.T) {
	for _, base := range append(someNumbers(), 3, 1998) {
		for _, time := range append(someTimes(), someNumbers()...) {
			want := 0 <= base && base <= 2000 && 0 <= time && time <= 1000000 && (base > 0 || time == 0)
			b := bookOf(base, time)
			wantIs(t, "BookOk of "+bookText(b), impl.BookOk(b), want)
			b = bookOf(base, time, cutAt(base+1, time))
			wantIs(t, "BookOk of "+bookText(b), impl.BookOk(b), want && base < 2000)
		}
	}
	for many := range 30 {
		for _, base := range []int64{0, 1, 40, 1970, 1975, 1979, 1980, 1981, 1990, 1999, 2000} {
			b := bookAfter(base, many)
			wantIs(t, "BookOk of "+bookText(b), impl.BookOk(b), many <= 20 && base+int64(many) <= 2000)
		}
	}
	for _, base := range []int64{1, 7, 1990} {
		for _, index := range someIndices(bookAfter(base, 2)) {
			for _, time := range []int64{0, 39, 40, 41, lastTime} {
				b := bookOf(base, 40, cutAt(index, time))
				wantIs(t, "BookOk of "+bookText(b), impl.BookOk(b), index == base+1 && time >= 40)
			}
		}
	}
}

// Every book of up to three entries whose indices and times are few is valid only if it is by hand.
func TestBookOkOfEveryShortBook(t *testing.T) {
	var singles []impl.Entry
	for index := range int64(5) {
		for time := range int64(3) {
			singles = append(singles, cutAt(index, time))
		}
	}
	lists := [][]impl.Entry{nil}
	for range 3 {
		for _, list := range slices.Clone(lists) {
			for _, e := range singles {
				lists = append(lists, append(slices.Clone(list), e))
			}
		}
	}
	for _, list := range lists {
		for base := range int64(4) {
			for time := range int64(3) {
				b := bookOf(base, time, list...)
				if impl.BookOk(b) != bookOkByHand(b) {
					t.Fatalf("BookOk of %s is not %v", bookText(b), bookOkByHand(b))
				}
			}
		}
	}
}

func TestLastOfAndTimeOf(t *testing.T) {
	for _, c := range []struct {
		b          impl.Book
		last, time int64
	}{
		{bookOf(0, 0), 0, 0}, {bookOf(3, 1), 3, 1}, {bookOf(2000, lastTime), 2000, lastTime}, {bookOf(7, 0), 7, 0},
		{bookOf(0, 0, cutAt(1, 5), cutAt(2, 5), cutAt(3, 8)), 3, 8}, {bookOf(2, 5, cutAt(3, 8)), 3, 8}, {bookOf(7, 9, cutAt(8, 9)), 8, 9}, {bookOf(0, 0, cutAt(1, 0)), 1, 0},
		{bookAfter(0, 20), 20, 14}, {bookAfter(1980, 20), 2000, 14},
		// not valid
		{bookOf(0, 1), 0, 0}, {bookOf(7, -1), 0, 0}, {bookOf(2001, 5), 0, 0}, {bookOf(7, 9, cutAt(8, 8)), 0, 0}, {bookOf(7, 9, cutAt(9, 9)), 0, 0}, {bookAfter(40, 21), 0, 0},
	} {
		got := []int64{impl.LastOf(c.b), impl.TimeOf(c.b)}
		equalInts(t, "LastOf and TimeOf of "+bookText(c.b), got, []int64{c.last, c.time})
	}
	for _, b := range goodBooks() {
		got := []int64{impl.LastOf(b), impl.TimeOf(b)}
		equalInts(t, "LastOf and TimeOf of "+bookText(b), got, []int64{lastByHand(b), timeByHand(b)})
	}
}

// wantEntryAt fails the test if EntryAt does not return the entry wanted.
func wantEntryAt(t *testing.T, b impl.Book, index int64, want impl.Entry, is bool) {
	t.Helper()
	what := "EntryAt " + textOf([]int64{index}) + " of " + bookText(b)
	got, ok := impl.EntryAt(b, index)
	wantIs(t, what, ok, is)
	equalInts(t, what, entryInts(got), entryInts(want))
}

// Every entry can be retrieved, and no other one.
func TestEntryAt(t *testing.T) {
	b := bookOf(2, 5, cutAt(3, 8), cutAt(4, 8), cutAt(5, 9))
	for _, index := range []int64{math.MinInt64, -1, 0, 1, 2, 6, 7, math.MaxInt64} {
		wantEntryAt(t, b, index, impl.Entry{}, false)
	}
	wantEntryAt(t, b, 3, cutAt(3, 8), true)
	wantEntryAt(t, b, 4, cutAt(4, 8), true)
	wantEntryAt(t, b, 5, cutAt(5, 9), true)
	for _, b := range goodBooks() {
		for _, index := range someIndices(b) {
			want, is := entryByHand(b, index)
			wantEntryAt(t, b, index, want, is)
		}
		for i, e := range b.Entries {
			wantEntryAt(t, b, b.Base+1+int64(i), e, true)
		}
	}
	full := bookAfter(40, 20)
	for index := int64(-10); index < 2010; index++ {
		want, is := entryByHand(full, index)
		wantEntryAt(t, full, index, want, is)
	}
}

// wantGrown fails the test if Grown, or Appended for one entry, does not return the book wanted.
func wantGrown(t *testing.T, b impl.Book, list []impl.Entry, want impl.Book, is bool) {
	t.Helper()
	what := bookText(b) + " grown by " + entriesText(list)
	got, ok := impl.Grown(b, list)
	wantBook(t, what, got, ok, want, is)
	if len(list) == 1 {
		got, ok = impl.Appended(b, list[0])
		wantBook(t, "Appended: "+what, got, ok, want, is)
	}
}

func TestAppendedByHand(t *testing.T) {
	b := bookOf(0, 0, cutAt(1, 5), cutAt(2, 5), cutAt(3, 8))
	wantGrown(t, b, []impl.Entry{cutAt(4, 8)}, bookOf(0, 0, cutAt(1, 5), cutAt(2, 5), cutAt(3, 8), cutAt(4, 8)), true)
	wantGrown(t, b, []impl.Entry{cutAt(4, 9)}, bookOf(0, 0, cutAt(1, 5), cutAt(2, 5), cutAt(3, 8), cutAt(4, 9)), true)
	wantGrown(t, b, []impl.Entry{cutAt(4, lastTime)}, bookOf(0, 0, cutAt(1, 5), cutAt(2, 5), cutAt(3, 8), cutAt(4, lastTime)), true)
	// an Index of LastOf, LastOf + 2 and others; a Time below TimeOf; entries that are not valid
	for _, e := range []impl.Entry{
		cutAt(3, 8), cutAt(5, 8), cutAt(3, 9), cutAt(5, 9), cutAt(1, 9), cutAt(0, 9), cutAt(-4, 9), cutAt(2004, 9), cutAt(4, 7), cutAt(4, 5), cutAt(4, 0), cutAt(4, -1),
		cutAt(4, lastTime+1), cutAt(4, math.MaxInt64), cutAt(4, math.MinInt64), cutAt(math.MaxInt64, 8), cutAt(math.MinInt64, 8), cutAt(4+1<<32, 8), {},
		entryOf(4, 8, 1, 1, 2, 4, 0, 0, 0), entryOf(4, 8, 6, 1, 2, 4, 0, 0, 0), entryOf(4, 8, 4, 0, 2, 4, 0, 0, 0), entryOf(4, 8, 4, 2001, 2, 4, 0, 0, 0), entryOf(4, 8, 4, 1, 2, 10, 0, 0, 0), entryOf(4, 8, 4, 1, 6, 4, 0, 0, 0), entryOf(4, 8, 4, 1, 2, 4, 1, 0, 0),
	} {
		wantGrown(t, b, []impl.Entry{e}, b, false)
	}
	// books without entries
	wantGrown(t, bookOf(0, 0), []impl.Entry{cutAt(1, 0)}, bookOf(0, 0, cutAt(1, 0)), true)
	wantGrown(t, bookOf(0, 0), []impl.Entry{cutAt(2, 0)}, bookOf(0, 0), false)
	wantGrown(t, bookOf(0, 0), []impl.Entry{cutAt(0, 0)}, bookOf(0, 0), false)
	wantGrown(t, bookOf(7, 9), []impl.Entry{cutAt(8, 9)}, bookOf(7, 9, cutAt(8, 9)), true)
	wantGrown(t, bookOf(7, 9), []impl.Entry{cutAt(8, 8)}, bookOf(7, 9), false)
	wantGrown(t, bookOf(7, 9), []impl.Entry{cutAt(7, 9)}, bookOf(7, 9), false)
	wantGrown(t, bookOf(7, 9), []impl.Entry{cutAt(9, 9)}, bookOf(7, 9), false)
	// up to the last Index
	wantGrown(t, bookOf(1999, 9), []impl.Entry{cutAt(2000, 9)}, bookOf(1999, 9, cutAt(2000, 9)), true)
	wantGrown(t, bookOf(1999, 9, cutAt(2000, 9)), []impl.Entry{cutAt(2001, 9)}, bookOf(1999, 9, cutAt(2000, 9)), false)
	wantGrown(t, bookOf(2000, 9), []impl.Entry{cutAt(2001, 9)}, bookOf(2000, 9), false)
}

// A book takes Ring entries, and not one more.
func TestAppendedUntilTheBookIsFull(t *testing.T) {
	for _, base := range []int64{0, 1, 40, 1979, 1980, 1985} {
		b := bookAfter(base, 0)
		for many := 1; many < 25; many++ {
			e := cutAt(lastByHand(b)+1, 100)
			want, is := bookOf(b.Base, b.Time, append(slices.Clone(b.Entries), e)...), many <= 20 && e.Index <= 2000
			if !is {
				want = b
			}
			wantGrown(t, b, []impl.Entry{e}, want, is)
			b = want
		}
		equalInts(t, "the entries of a full book", []int64{int64(len(b.Entries))}, []int64{min(20, 2000-base)})
	}
	full := bookAfter(40, 20)
	for _, e := range []impl.Entry{cutAt(61, 14), cutAt(61, 20), cutAt(60, 14), cutAt(41, 8), cutAt(40, 8)} {
		wantGrown(t, full, []impl.Entry{e}, full, false)
	}
	wantGrown(t, full, nil, full, true)
}

func TestGrownByHand(t *testing.T) {
	b := bookOf(2, 5, cutAt(3, 8))
	wantGrown(t, b, nil, b, true)
	wantGrown(t, b, []impl.Entry{}, b, true)
	wantGrown(t, b, []impl.Entry{cutAt(4, 8), cutAt(5, 8)}, bookOf(2, 5, cutAt(3, 8), cutAt(4, 8), cutAt(5, 8)), true)
	wantGrown(t, b, []impl.Entry{cutAt(4, 8), cutAt(5, 10), cutAt(6, 12)}, bookOf(2, 5, cutAt(3, 8), cutAt(4, 8), cutAt(5, 10), cutAt(6, 12)), true)
	wantGrown(t, b, []impl.Entry{cutAt(4, 8), cutAt(6, 8)}, b, false)
	wantGrown(t, b, []impl.Entry{cutAt(4, 8), cutAt(4, 8)}, b, false)
	wantGrown(t, b, []impl.Entry{cutAt(5, 8), cutAt(4, 8)}, b, false)
	wantGrown(t, b, []impl.Entry{cutAt(4, 9), cutAt(5, 8)}, b, false)
	wantGrown(t, b, []impl.Entry{cutAt(4, 7), cutAt(5, 8)}, b, false)
	wantGrown(t, b, []impl.Entry{cutAt(4, 8), cutAt(5, 9), cutAt(6, 8)}, b, false)
	wantGrown(t, b, []impl.Entry{{}, cutAt(4, 8)}, b, false)
	wantGrown(t, b, []impl.Entry{cutAt(4, 8), {}}, b, false)
	wantGrown(t, bookOf(2000, 5), nil, bookOf(2000, 5), true)
	wantGrown(t, bookOf(1998, 5), []impl.Entry{cutAt(1999, 5), cutAt(2000, 5)}, bookOf(1998, 5, cutAt(1999, 5), cutAt(2000, 5)), true)
	wantGrown(t, bookOf(1998, 5), []impl.Entry{cutAt(1999, 5), cutAt(2000, 5), cutAt(2001, 5)}, bookOf(1998, 5), false)
}

// spoiled are changes after which an entry can no longer follow the one before it.
func spoiled() []func(e *impl.Entry) {
	return []func(e *impl.Entry){
		func(e *impl.Entry) { e.Index++ }, func(e *impl.Entry) { e.Index-- }, func(e *impl.Entry) { e.Index = math.MinInt64 }, func(e *impl.Entry) { e.Time = -1 },
		func(e *impl.Entry) { e.Time = lastTime + 1 }, func(e *impl.Entry) { e.Client = 1 }, func(e *impl.Entry) { e.Seq = 0 }, func(e *impl.Entry) { e.Op.Kind = 0 }, func(e *impl.Entry) { *e = impl.Entry{} },
	}
}

// Lists of no, one, some, Ring and Ring + 1 entries, also with one of them that cannot be appended.
func TestGrownByLists(t *testing.T) {
	for _, base := range []int64{0, 1, 40, 1975, 1980} {
		for _, had := range []int{0, 1, 5, 19, 20} {
			b := bookAfter(base, had)
			for _, many := range []int{0, 1, 2, 3, 15, 19, 20, 21, 22, 100} {
				list := bookAfter(base, had+many).Entries[had:]
				want, is := grownByHand(b, list)
				wantIs(t, "the entries of the model", is, had+many <= 20 && base+int64(had+many) <= 2000)
				wantGrown(t, b, list, want, is)
				for _, at := range []int{0, many / 2, many - 1} {
					if many == 0 || many > 30 {
						continue
					}
					for _, change := range spoiled() {
						wantGrown(t, b, entriesWith(list, at, change), b, false)
					}
					// a Time that is less than all others; only the first entry of all can have it
					early := entriesWith(list, at, func(e *impl.Entry) { e.Time = 7 })
					want, is := grownByHand(b, early)
					wantIs(t, "an early entry", is, base+int64(had+at) == 0 && many <= 20)
					wantGrown(t, b, early, want, is)
				}
			}
		}
	}
}

// A book grown at once is the one grown in two parts, and the one grown entry by entry.
func TestGrownInParts(t *testing.T) {
	for _, base := range []int64{0, 1, 40, 1980} {
		for had := range 21 {
			b, whole := bookAfter(base, had), bookAfter(base, 20)
			for many := had; many <= 20; many++ {
				first, is := impl.Grown(b, whole.Entries[had:many])
				wantBook(t, "the first part", first, is, bookAfter(base, many), true)
				second, is := impl.Grown(first, whole.Entries[many:])
				wantBook(t, "both parts", second, is, whole, true)
			}
			for _, e := range whole.Entries[had:] {
				var is bool
				b, is = impl.Appended(b, e)
				wantIs(t, "Appended", is, true)
			}
			equalBooks(t, "entry by entry", b, whole)
		}
	}
}

// wantTrimmed fails the test if TrimmedTo does not return the book wanted.
func wantTrimmed(t *testing.T, b impl.Book, index int64, want impl.Book, is bool) {
	t.Helper()
	got, ok := impl.TrimmedTo(b, index)
	wantBook(t, "TrimmedTo "+textOf([]int64{index})+" of "+bookText(b), got, ok, want, is)
}

// wantBack fails the test if BackTo does not return the book wanted.
func wantBack(t *testing.T, b impl.Book, index int64, want impl.Book, is bool) {
	t.Helper()
	got, ok := impl.BackTo(b, index)
	wantBook(t, "BackTo "+textOf([]int64{index})+" of "+bookText(b), got, ok, want, is)
}

func TestTrimmedToAndBackToByHand(t *testing.T) {
	one, two, three, four := cutAt(3, 8), cutAt(4, 8), cutAt(5, 9), cutAt(6, 12)
	b := bookOf(2, 5, one, two, three, four)
	for _, index := range []int64{math.MinInt64, -2, -1, 0, 1, 7, 8, 2000, 1<<32 + 3, math.MaxInt64} {
		wantTrimmed(t, b, index, b, false)
		wantBack(t, b, index, b, false)
	}
	wantTrimmed(t, b, 2, b, true)
	wantTrimmed(t, b, 3, bookOf(3, 8, two, three, four), true)
	wantTrimmed(t, b, 4, bookOf(4, 8, three, four), true)
	wantTrimmed(t, b, 5, bookOf(5, 9, four), true)
	wantTrimmed(t, b, 6, bookOf(6, 12), true)
	wantBack(t, b, 2, bookOf(2, 5), true)
	wantBack(t, b, 3, bookOf(2, 5, one), true)
	wantBack(t, b, 4, bookOf(2, 5, one, two), true)
	wantBack(t, b, 5, bookOf(2, 5, one, two, three), true)
	wantBack(t, b, 6, b, true)
	// a book that starts at 0, and books without entries
	first := bookOf(0, 0, cutAt(1, 5), cutAt(2, 5), cutAt(3, 8))
	wantTrimmed(t, first, 0, first, true)
	wantTrimmed(t, first, -1, first, false)
	wantTrimmed(t, first, 2, bookOf(2, 5, cutAt(3, 8)), true)
	wantTrimmed(t, first, 3, bookOf(3, 8), true)
	wantTrimmed(t, first, 4, first, false)
	wantBack(t, first, 0, bookOf(0, 0), true)
	wantBack(t, first, 1, bookOf(0, 0, cutAt(1, 5)), true)
	wantBack(t, first, -1, first, false)
	for _, empty := range []impl.Book{bookOf(0, 0), bookOf(7, 9), bookOf(2000, 9)} {
		wantTrimmed(t, empty, empty.Base, empty, true)
		wantBack(t, empty, empty.Base, empty, true)
		for _, index := range []int64{empty.Base - 1, empty.Base + 1} {
			wantTrimmed(t, empty, index, empty, false)
			wantBack(t, empty, index, empty, false)
		}
	}
	// the last entry of all
	last := bookOf(1998, 1, cutAt(1999, 2), cutAt(2000, 3))
	wantTrimmed(t, last, 2000, bookOf(2000, 3), true)
	wantBack(t, last, 2000, last, true)
}

// wantPart fails the test if PartOf does not return the entries wanted.
func wantPart(t *testing.T, b impl.Book, from, many int64, want []impl.Entry) {
	t.Helper()
	equalEntries(t, "PartOf "+textOf([]int64{from, many})+" of "+bookText(b), impl.PartOf(b, from, many), want)
}

func TestPartOfByHand(t *testing.T) {
	one, two, three := cutAt(3, 8), cutAt(4, 8), cutAt(5, 9)
	b := bookOf(2, 5, one, two, three)
	for _, many := range []int64{3, 4, 2000, math.MaxInt64} {
		for _, from := range []int64{math.MinInt64, -1, 0, 1, 2, 3} {
			wantPart(t, b, from, many, []impl.Entry{one, two, three})
		}
		wantPart(t, b, 4, many, []impl.Entry{two, three})
		wantPart(t, b, 5, many, []impl.Entry{three})
		wantPart(t, b, 6, many, nil)
		wantPart(t, b, math.MaxInt64, many, nil)
	}
	for _, from := range []int64{math.MinInt64, -1, 1, 2, 3} {
		wantPart(t, b, from, 1, []impl.Entry{one})
		wantPart(t, b, from, 2, []impl.Entry{one, two})
	}
	wantPart(t, b, 4, 1, []impl.Entry{two})
	wantPart(t, b, 4, 2, []impl.Entry{two, three})
	wantPart(t, b, 5, 1, []impl.Entry{three})
	wantPart(t, b, 5, 2, []impl.Entry{three})
	for _, from := range []int64{math.MinInt64, 1, 2, 3, 4, 5, 6} {
		for _, many := range []int64{math.MinInt64, -3, -1, 0} {
			wantPart(t, b, from, many, nil)
		}
	}
	wantPart(t, bookOf(7, 9), 7, 1, nil)
	wantPart(t, bookOf(7, 9), 8, 1, nil)
}

// Trimming, going back and taking a part at every index of every book, each compared with what is
// done by hand.
func TestBooksAtEveryIndex(t *testing.T) {
	for _, b := range goodBooks() {
		for _, index := range someIndices(b) {
			want, is := trimmedByHand(b, index)
			wantTrimmed(t, b, index, want, is)
			wantIs(t, "the range of the model", is, b.Base <= index && index <= lastByHand(b))
			want, is = backByHand(b, index)
			wantBack(t, b, index, want, is)
			for _, many := range someCounts() {
				wantPart(t, b, index, many, partByHand(b, index, many))
			}
			for _, time := range []int64{0, timeByHand(b) - 1, timeByHand(b), timeByHand(b) + 1, lastTime, math.MaxInt64, math.MinInt64} {
				list := []impl.Entry{cutAt(index, time)}
				want, is = grownByHand(b, list)
				wantGrown(t, b, list, want, is)
			}
		}
	}
}

// Trimming in two steps is trimming in one, and so is going back; both together leave the same
// entries in either order.
func TestTrimmedInSteps(t *testing.T) {
	for _, b := range []impl.Book{bookAfter(0, 20), bookAfter(1, 7), bookAfter(1980, 20), bookOf(2, 5, cutAt(3, 8), cutAt(4, 8), cutAt(5, 9)), bookOf(7, 9)} {
		for low := b.Base; low <= lastByHand(b); low++ {
			trimmed, _ := impl.TrimmedTo(b, low)
			for high := low; high <= lastByHand(b); high++ {
				once, is := impl.TrimmedTo(b, high)
				wantIs(t, "in one step", is, true)
				wantTrimmed(t, trimmed, high, once, true)
				back, is := impl.BackTo(b, high)
				wantIs(t, "back in one step", is, true)
				both, is := impl.BackTo(trimmed, high)
				wantIs(t, "trimmed and back", is, true)
				wantTrimmed(t, back, low, both, true)
				lowest, is := impl.BackTo(b, low)
				wantIs(t, "back to the lower one", is, true)
				wantBack(t, back, low, lowest, true)
				if high > low {
					// what is gone stays gone
					gone, _ := impl.TrimmedTo(b, high)
					wantTrimmed(t, gone, low, gone, false)
					wantBack(t, lowest, high, lowest, false)
				}
			}
		}
	}
}

// Promise 8: removing entries at one end leaves the others as they are, and those removed after an
// index can be appended again, which restores the book.
func TestRemovedEntriesLeaveTheOthers(t *testing.T) {
	for _, b := range goodBooks() {
		for index := b.Base; index <= lastByHand(b); index++ {
			back, _ := impl.BackTo(b, index)
			trimmed, _ := impl.TrimmedTo(b, index)
			for _, e := range b.Entries {
				if e.Index <= index {
					wantEntryAt(t, back, e.Index, e, true)
					wantEntryAt(t, trimmed, e.Index, impl.Entry{}, false)
				} else {
					wantEntryAt(t, back, e.Index, impl.Entry{}, false)
					wantEntryAt(t, trimmed, e.Index, e, true)
				}
			}
			wantGrown(t, back, impl.PartOf(b, index+1, 20), b, true)
			wantGrown(t, bookOf(index, trimmed.Time), trimmed.Entries, trimmed, true)
			got := []int64{impl.LastOf(trimmed), impl.TimeOf(trimmed), trimmed.Base, trimmed.Time, impl.LastOf(back), impl.TimeOf(back), back.Base, back.Time}
			want := []int64{lastByHand(b), timeByHand(b), index, timeByHand(back), index, trimmed.Time, b.Base, b.Time}
			equalInts(t, "the ends of "+bookText(b)+" at "+textOf([]int64{index}), got, want)
		}
	}
}

// Every function of a book that is not valid returns zero values, whatever its other arguments are.
func TestBooksThatAreNotValid(t *testing.T) {
	for _, b := range badBooks() {
		equalInts(t, "LastOf and TimeOf of "+bookText(b), []int64{impl.LastOf(b), impl.TimeOf(b)}, []int64{0, 0})
		lists := [][]impl.Entry{nil, {{}}, {cutAt(b.Base+int64(len(b.Entries))+1, lastTime)}, {cutAt(1, 0)}, {cutAt(b.Base+1, b.Time)}, manyEntries(21, 1), b.Entries}
		for _, list := range lists {
			wantGrown(t, b, list, impl.Book{}, false)
		}
		for _, index := range []int64{math.MinInt64, -1, 0, 1, 3, 4, 7, 8, 9, 12, 13, b.Base, b.Base + 1, b.Base + int64(len(b.Entries)), 2000, 2001, math.MaxInt64} {
			wantEntryAt(t, b, index, impl.Entry{}, false)
			wantTrimmed(t, b, index, impl.Book{}, false)
			wantBack(t, b, index, impl.Book{}, false)
			for _, many := range []int64{math.MinInt64, -1, 0, 1, 20, math.MaxInt64} {
				wantPart(t, b, index, many, nil)
			}
		}
		for _, e := range b.Entries[:min(3, len(b.Entries))] {
			wantEntryAt(t, b, e.Index, impl.Entry{}, false)
		}
	}
}

// wantSameBook fails the test if two books are not found equal, or not, in either order.
func wantSameBook(t *testing.T, a, b impl.Book, want bool) {
	t.Helper()
	what := "SameBook of " + bookText(a) + " and " + bookText(b)
	wantIs(t, what, impl.SameBook(a, b), want)
	wantIs(t, what+", exchanged", impl.SameBook(b, a), want)
}

func TestSameBook(t *testing.T) {
	books := append(goodBooks(), badBooks()...)
	for _, b := range books {
		wantSameBook(t, b, b, true)
		wantSameBook(t, b, clonedBook(b), true)
	}
	var texts []string
	for _, b := range books {
		texts = append(texts, bookText(b))
	}
	for i, a := range books {
		for j, b := range books {
			if impl.SameBook(a, b) != (texts[i] == texts[j]) {
				t.Fatalf("SameBook of %s and %s", texts[i], texts[j])
			}
		}
	}
	wantSameBook(t, impl.Book{}, impl.Book{Entries: []impl.Entry{}}, true)
	wantSameBook(t, impl.Book{Base: -1}, impl.Book{Base: -1, Entries: []impl.Entry{}}, true)
	wantSameBook(t, bookOf(7, 9), bookOf(7, 9, impl.Entry{}), false)
	wantSameBook(t, bookOf(7, 9, impl.Entry{}), bookOf(7, 9, impl.Entry{}, impl.Entry{}), false)
}

// Books with one difference, in each number, at each place.
func TestSameBookOfOneDifference(t *testing.T) {
	for _, many := range []int{0, 1, 2, 5, 20, 25, 2500} {
		for _, base := range []int64{-3, 0, 7, 1990} {
			b := bookAfter(base, many)
			wantSameBook(t, b, bookOf(b.Base+1, b.Time, b.Entries...), false)
			wantSameBook(t, b, bookOf(b.Base, b.Time-1, b.Entries...), false)
			wantSameBook(t, b, bookOf(b.Base, b.Time, append(slices.Clone(b.Entries), cutAt(base+int64(many)+1, 50))...), false)
			for _, at := range []int{0, many / 2, many - 1} {
				if many == 0 {
					continue
				}
				wantSameBook(t, b, bookOf(b.Base, b.Time, slices.Delete(slices.Clone(b.Entries), at, at+1)...), false)
				for i := range 9 {
					numbers := entryInts(b.Entries[at])
					other := clonedBook(b)
					other.Entries[at] = entryOf(numberAt(numbers, i, numbers[i]+1)...)
					wantSameBook(t, b, other, false)
				}
			}
		}
	}
	a, b := cutAt(8, 9), cutAt(9, 9)
	wantSameBook(t, bookOf(7, 9, a, b), bookOf(7, 9, b, a), false)
}

// A bookModel is what a book is to hold: entries by index, and the time of every entry that there was.
type bookModel struct {
	base, last int64
	entries    map[int64]impl.Entry
	times      map[int64]int64
}

// book returns the book of the model.
func (m *bookModel) book() impl.Book {
	b := bookOf(m.base, m.times[m.base])
	for index := m.base + 1; index <= m.last; index++ {
		b.Entries = append(b.Entries, m.entries[index])
	}
	return b
}

// put records an entry.
func (m *bookModel) put(e impl.Entry) {
	m.last = e.Index
	m.entries[e.Index], m.times[e.Index] = e, e.Time
}

// fits reports whether the entry can be put; most of those that are tried are valid.
func (m *bookModel) fits(e impl.Entry) bool {
	return entryOkByHand(entryInts(e)) && m.last-m.base < 20 && e.Index == m.last+1 && e.Time >= m.times[m.last]
}

// randomNext returns an entry that can follow, or nearly so.
func (m *bookModel) randomNext(r *rand.Rand) impl.Entry {
	numbers := randomEntry(r)
	numbers[0], numbers[1] = m.last+1, m.times[m.last]+r.Int63n(3)
	if r.Intn(6) == 0 {
		numbers[r.Intn(9)] += r.Int63n(5) - 2
	}
	return entryOf(numbers...)
}

// grow appends some entries, one by one or at once.
func (m *bookModel) grow(t *testing.T, r *rand.Rand, b impl.Book) impl.Book {
	before, many := m.last, r.Intn(8)
	var list []impl.Entry
	for range many {
		e := m.randomNext(r)
		list = append(list, e)
		if !m.fits(e) {
			grown, is := impl.Grown(b, list)
			wantBook(t, "Grown with one that cannot be appended", grown, is, b, false)
			m.last = before
			return b
		}
		m.put(e)
	}
	once, is := impl.Grown(b, list)
	wantBook(t, "Grown", once, is, m.book(), true)
	for _, e := range list {
		b, is = impl.Appended(b, e)
		wantIs(t, "Appended", is, true)
	}
	equalBooks(t, "Appended one by one", b, once)
	return b
}

// played applies a random operation to the book and to the model.
func (m *bookModel) played(t *testing.T, r *rand.Rand, b impl.Book) impl.Book {
	index := m.base - 1 + r.Int63n(m.last-m.base+3)
	inside := m.base <= index && index <= m.last
	switch r.Intn(5) {
	case 0:
		got, is := impl.TrimmedTo(b, index)
		wantIs(t, "TrimmedTo", is, inside)
		if inside {
			m.base = index
		}
		return got
	case 1:
		got, is := impl.BackTo(b, index)
		wantIs(t, "BackTo", is, inside)
		if inside {
			m.last = index
		}
		return got
	}
	return m.grow(t, r, b)
}

// Promise 8: in long plays of random operations a book holds what the model does, and its times
// never decrease.
func TestBookAgainstModel(t *testing.T) {
	reached := int64(0)
	for seed := range int64(60) {
		r := rand.New(rand.NewSource(seed))
		m := &bookModel{entries: map[int64]impl.Entry{}, times: map[int64]int64{}}
		b := impl.Book{}
		for range 300 {
			b = m.played(t, r, b)
			equalBooks(t, "the book", b, m.book())
			wantIs(t, "BookOk", impl.BookOk(b), true)
			equalInts(t, "the ends", []int64{impl.LastOf(b), impl.TimeOf(b)}, []int64{m.last, m.times[m.last]})
			time := b.Time
			for index := m.base - 1; index <= m.last+1; index++ {
				e, is := impl.EntryAt(b, index)
				wantIs(t, "EntryAt", is, m.base < index && index <= m.last)
				if is && (e != m.entries[index] || e.Time < time) {
					t.Errorf("the entry %v at %d after the time %d", e, index, time)
				}
				time = max(time, e.Time)
			}
			from, many := m.base+r.Int63n(22)-1, r.Int63n(23)-1
			wantPart(t, b, from, many, partByHand(m.book(), from, many))
			if t.Failed() {
				t.Fatalf("seed %d", seed)
			}
		}
		reached = max(reached, m.last)
	}
	if reached < 150 {
		t.Errorf("the books grew to %d only", reached)
	}
}

// bookResult is what a function returns of a book: a book, or entries.
type bookResult struct {
	book impl.Book
	part []impl.Entry
}

// text writes a result.
func (x bookResult) text() string { return bookText(x.book) + " " + entriesText(x.part) }

// wipe overwrites the memory of a result.
func (x bookResult) wipe() {
	wipedEntries(x.book.Entries)
	wipedEntries(x.part)
}

// bookCalls are the functions of a book, with an entry, a list and indices that they are called with.
func bookCalls() map[string]func(b impl.Book, list []impl.Entry, index int64) bookResult {
	ofBook := func(b impl.Book, _ bool) bookResult { return bookResult{book: b} }
	return map[string]func(b impl.Book, list []impl.Entry, index int64) bookResult{
		"BookOk": func(b impl.Book, _ []impl.Entry, _ int64) bookResult { impl.BookOk(b); return bookResult{} },
		"LastOf": func(b impl.Book, _ []impl.Entry, _ int64) bookResult { impl.LastOf(b); return bookResult{} },
		"TimeOf": func(b impl.Book, _ []impl.Entry, _ int64) bookResult { impl.TimeOf(b); return bookResult{} },
		"EntryAt": func(b impl.Book, _ []impl.Entry, index int64) bookResult {
			e, _ := impl.EntryAt(b, index)
			return bookResult{part: []impl.Entry{e}}
		},
		"Appended": func(b impl.Book, list []impl.Entry, index int64) bookResult {
			if len(list) == 0 {
				return ofBook(impl.Appended(b, cutAt(index, 9)))
			}
			return ofBook(impl.Appended(b, list[0]))
		},
		"Grown":     func(b impl.Book, list []impl.Entry, _ int64) bookResult { return ofBook(impl.Grown(b, list)) },
		"TrimmedTo": func(b impl.Book, _ []impl.Entry, index int64) bookResult { return ofBook(impl.TrimmedTo(b, index)) },
		"BackTo":    func(b impl.Book, _ []impl.Entry, index int64) bookResult { return ofBook(impl.BackTo(b, index)) },
		"PartOf": func(b impl.Book, _ []impl.Entry, index int64) bookResult {
			return bookResult{part: impl.PartOf(b, index, 7)}
		},
		"PartOf all": func(b impl.Book, _ []impl.Entry, index int64) bookResult {
			return bookResult{part: impl.PartOf(b, index, 20)}
		},
		"SameBook": func(b impl.Book, list []impl.Entry, _ int64) bookResult {
			impl.SameBook(b, bookOf(b.Base, b.Time, list...))
			impl.SameBook(b, b)
			return bookResult{}
		},
	}
}

// wantBookApart fails the test if a call changes an argument, its spare capacity included, or
// returns memory that is the argument's or that of another result.
func wantBookApart(t *testing.T, what string, call func(b impl.Book, list []impl.Entry, index int64) bookResult, b impl.Book, list []impl.Entry, index int64) {
	t.Helper()
	entries, whole := roomyEntries(b.Entries)
	more, all := roomyEntries(list)
	roomyBook := bookOf(b.Base, b.Time)
	roomyBook.Entries = entries
	before, beforeAll := slices.Clone(whole), slices.Clone(all)
	one, other, third := call(roomyBook, more, index), call(roomyBook, more, index), call(roomyBook, more, index)
	equalEntries(t, what+" has changed its book", whole, before)
	equalEntries(t, what+" has changed its list", all, beforeAll)
	want := one.text()
	one.wipe()
	equalEntries(t, what+" shares the memory of its book", whole, before)
	equalEntries(t, what+" shares the memory of its list", all, beforeAll)
	if other.text() != want {
		t.Errorf("%s: a result shares the memory of an earlier one", what)
	}
	wipedEntries(whole)
	wipedEntries(all)
	if other.text() != want || third.text() != want {
		t.Errorf("%s: a result shares the memory of an argument", what)
	}
}

func TestBooksChangeNoArgument(t *testing.T) {
	books := append(goodBooks(), bookOf(0, 1), bookOf(0, 1, cutAt(1, 5)), bookAfter(40, 21), bookAfter(7, 30), bookOf(2, 5, cutAt(3, 8), cutAt(4, 7)), bookOf(7, 5, cutAt(8, 4)))
	for name, call := range bookCalls() {
		for _, b := range books {
			last := b.Base + int64(len(b.Entries))
			lists := [][]impl.Entry{nil, {cutAt(last+1, 500)}, {cutAt(last+1, 500), cutAt(last+2, 500)}, {cutAt(last+1, 500), cutAt(last+3, 500)}, {cutAt(last, 500)}, manyEntries(20, last+1), manyEntries(21, last+1), b.Entries}
			for _, list := range lists {
				for _, index := range []int64{b.Base - 1, b.Base, b.Base + 1, (b.Base + last) / 2, last - 1, last, last + 1} {
					wantBookApart(t, name+" of "+bookText(b), call, b, list, index)
				}
			}
		}
		if t.Failed() {
			return
		}
	}
}

// A book can be grown by its own entries, or by those of another book, without any of them changing.
func TestBookGrownFromSharedMemory(t *testing.T) {
	whole := bookAfter(40, 20)
	before := clonedBook(whole)
	for many := range 21 {
		// the entries behind those of the book are in its spare capacity
		b := bookOf(40, 8)
		b.Entries = whole.Entries[:many]
		wantGrown(t, b, whole.Entries[many:], before, true)
		if many < 20 {
			e := cutAt(40+int64(many)+1, 100)
			wantGrown(t, b, []impl.Entry{e}, bookOf(40, 8, append(slices.Clone(before.Entries[:many]), e)...), true)
		}
		wantGrown(t, b, b.Entries, b, many == 0)
		equalBooks(t, "the shared memory", whole, before)
	}
}
