package tests

import (
	"math"
	"math/rand"
	"slices"
	"strconv"
	"testing"

	"loop.example/g00851/impl"
)

// The requests, from the numbers of their operation or their key.

func putWant(key, value int64) impl.Want {
	return impl.Want{Kind: impl.WtPut, Op: opOf(1, key, value, 0, 0)}
}

func cutWant(key int64) impl.Want { return impl.Want{Kind: impl.WtCut, Op: opOf(2, key, 0, 0, 0)} }

func jobWant(id, due, key, value int64) impl.Want {
	return impl.Want{Kind: impl.WtJob, Op: opOf(3, id, due, key, value)}
}

func readWant(key int64) impl.Want { return impl.Want{Kind: impl.WtRead, Key: key} }

// gotOf returns a result.
func gotOf(seq, index, has, value int64) impl.Got {
	return impl.Got{Seq: seq, Index: index, Has: has, Value: value}
}

// clientWith returns a client with these results, valid or not; Last is as they say.
func clientWith(id int64, todo []impl.Want, gots ...impl.Got) impl.Client {
	c := impl.Client{Id: id, Todo: todo, Gots: gots}
	if len(gots) > 0 {
		c.Last = gots[len(gots)-1].Index
	}
	return c
}

// valueWith returns an answer to a read.
func valueWith(client, seq, index, has, value int64) impl.Value {
	return impl.Value{Client: client, Seq: seq, Index: index, Has: has, Value: value}
}

// The definitions of valid requests and clients.

func wantOkByHand(w impl.Want) bool {
	switch w.Kind {
	case 1, 2, 3:
		// the kinds of these operations have the same numbers
		return w.Op.Kind == w.Kind && opOkByHand(opInts(w.Op)) && w.Key == 0
	case 4:
		return same(w.Op, impl.Op{}) && 0 <= w.Key && w.Key <= 9
	}
	return false
}

func gotOkByHand(g impl.Got, w impl.Want, seq, last int64) bool {
	if g.Seq != seq || g.Index < 0 || g.Index > 2000 {
		return false
	}
	if w.Kind != 4 {
		return g.Index > last && g.Has == 0 && g.Value == 0
	}
	switch g.Has {
	case 0:
		return g.Index >= last && g.Value == 0
	case 1:
		return g.Index >= last && 0 <= g.Value && g.Value <= 999
	}
	return false
}

func clientOkByHand(c impl.Client) bool {
	if c.Id != 4 && c.Id != 5 || len(c.Todo) > 12 || len(c.Gots) > len(c.Todo) {
		return false
	}
	for _, w := range c.Todo {
		if !wantOkByHand(w) {
			return false
		}
	}
	last := int64(0)
	for i, g := range c.Gots {
		if !gotOkByHand(g, c.Todo[i], int64(i)+1, last) {
			return false
		}
		last = g.Index
	}
	return c.Last == last
}

// The definitions of what a valid client does.

func nextByHand(c impl.Client) int64 {
	if len(c.Gots) == len(c.Todo) {
		return 0
	}
	return int64(len(c.Gots)) + 1
}

func sendByHand(c impl.Client) []impl.Msg {
	seq := nextByHand(c)
	if seq == 0 {
		return nil
	}
	w := c.Todo[seq-1]
	if w.Kind == 4 {
		return []impl.Msg{msgOf(c.Id, 1, 6, c.Id, seq, w.Key, c.Last)}
	}
	return []impl.Msg{msgOf(c.Id, 0, 1, c.Id, seq, w.Op.Kind, w.Op.A, w.Op.B, w.Op.C, w.Op.D)}
}

// resultByHand returns the client with one more result.
func resultByHand(c impl.Client, g impl.Got) impl.Client {
	return clientWith(c.Id, c.Todo, append(slices.Clone(c.Gots), g)...)
}

// awaitsByHand reports whether the next request of a client has this Seq and is a read or not, as said.
func awaitsByHand(c impl.Client, client, seq int64, read bool) bool {
	return client == c.Id && seq > 0 && seq == nextByHand(c) && (c.Todo[seq-1].Kind == 4) == read
}

func heardAckByHand(c impl.Client, a impl.Ack) impl.Client {
	if !ackByHand(ackInts(a)) || !awaitsByHand(c, a.Client, a.Seq, false) || a.Index <= c.Last {
		return c
	}
	return resultByHand(c, gotOf(a.Seq, a.Index, 0, 0))
}

func heardValueByHand(c impl.Client, v impl.Value) impl.Client {
	if !valueByHand(valueInts(v)) || !awaitsByHand(c, v.Client, v.Seq, true) || v.Index < c.Last {
		return c
	}
	return resultByHand(c, gotOf(v.Seq, v.Index, v.Has, v.Value))
}

func acksByHand(c impl.Client) []impl.Ack {
	var acks []impl.Ack
	for i, g := range c.Gots {
		if c.Todo[i].Kind != 4 {
			acks = append(acks, ackWith(c.Id, g.Seq, g.Index, g.Seq))
		}
	}
	return acks
}

// mixedTodo has 12 requests of all kinds, with writes and reads in each order and their numbers at the
// limits.
func mixedTodo() []impl.Want {
	return []impl.Want{
		putWant(0, 999), readWant(0), readWant(9), cutWant(9), jobWant(20, lastTime, 9, 999), readWant(5),
		putWant(9, 0), putWant(4, 17), readWant(4), cutWant(0), readWant(4), jobWant(1, 0, 0, 0),
	}
}

// firstRead has reads before its only write.
func firstRead() []impl.Want {
	return []impl.Want{readWant(3), readWant(3), putWant(3, 1), readWant(3)}
}

// resultsOf returns results of the first requests. A write is step indices after the one before it, a
// read at the same index, or slide indices after it.
func resultsOf(todo []impl.Want, many int, step, slide int64) []impl.Got {
	var gots []impl.Got
	last := int64(0)
	for i, w := range todo[:many] {
		seq, has := int64(i)+1, int64(i)%2
		if w.Kind == 4 {
			last += slide
			gots = append(gots, gotOf(seq, last, has, has*(999-int64(i))))
		} else {
			last += step
			gots = append(gots, gotOf(seq, last, 0, 0))
		}
	}
	return gots
}

// goodClients are valid: with no, one, some and 12 requests, none, some and all of which have results,
// with indices at and between the limits, and of both nodes.
func goodClients() []impl.Client {
	good := []impl.Client{
		clientWith(4, nil), clientWith(5, []impl.Want{}), clientWith(4, []impl.Want{readWant(0)}), clientWith(5, []impl.Want{cutWant(3)}),
		clientWith(4, []impl.Want{readWant(0)}, gotOf(1, 0, 0, 0)), clientWith(4, []impl.Want{readWant(0)}, gotOf(1, 0, 1, 999)), clientWith(4, []impl.Want{readWant(0)}, gotOf(1, 2000, 1, 0)), clientWith(5, []impl.Want{readWant(0)}, gotOf(1, 1, 0, 0)),
		clientWith(5, []impl.Want{cutWant(3)}, gotOf(1, 1, 0, 0)), clientWith(5, []impl.Want{cutWant(3)}, gotOf(1, 2000, 0, 0)),
		clientWith(4, firstRead(), gotOf(1, 0, 0, 0), gotOf(2, 0, 0, 0)), clientWith(4, firstRead(), gotOf(1, 0, 0, 0), gotOf(2, 0, 0, 0), gotOf(3, 1, 0, 0)), clientWith(4, firstRead(), gotOf(1, 0, 0, 0), gotOf(2, 0, 0, 0), gotOf(3, 2000, 0, 0), gotOf(4, 2000, 1, 1)), clientWith(5, firstRead(), gotOf(1, 2000, 0, 0), gotOf(2, 2000, 1, 0)), clientWith(5, firstRead(), gotOf(1, 1999, 0, 0), gotOf(2, 1999, 1, 0)),
		clientWith(4, slices.Repeat([]impl.Want{putWant(1, 2)}, 12)), clientWith(4, slices.Repeat([]impl.Want{readWant(1)}, 12), resultsOf(slices.Repeat([]impl.Want{readWant(1)}, 12), 12, 1, 0)...),
	}
	for many := range 13 {
		good = append(good, clientWith(4, mixedTodo(), resultsOf(mixedTodo(), many, 1, 0)...), clientWith(5, mixedTodo(), resultsOf(mixedTodo(), many, 7, 3)...), clientWith(4, mixedTodo()[:many], resultsOf(mixedTodo(), many, 100, 1)...))
	}
	return good
}

// badClients are not valid: each field of a few valid ones is changed by itself, and they have too many
// requests or results.
func badClients() []impl.Client {
	var bad []impl.Client
	take := func(_ string, c impl.Client) {
		if !clientOkByHand(c) {
			bad = append(bad, cloned(c))
		}
	}
	for _, c := range []impl.Client{clientWith(4, mixedTodo(), resultsOf(mixedTodo(), 7, 7, 3)...), clientWith(5, firstRead(), resultsOf(firstRead(), 4, 1, 0)...), clientWith(5, []impl.Want{putWant(3, 7)}), clientWith(4, nil)} {
		changesOf(c, otherNumbers, take)
	}
	many := slices.Repeat([]impl.Want{readWant(1)}, 4000)
	return append(bad, impl.Client{}, clientWith(4, many), clientWith(4, many[:13]), clientWith(4, many, resultsOf(many, 4000, 1, 0)...), clientWith(4, nil, gotOf(1, 0, 0, 0)), clientWith(4, nil, resultsOf(many, 4000, 0, 0)...))
}

func TestConstantsOfClients(t *testing.T) {
	equalInts(t, "the kinds", []int64{impl.WtPut, impl.WtCut, impl.WtJob, impl.WtRead}, []int64{1, 2, 3, 4})
}

func TestWantsByHand(t *testing.T) {
	for _, w := range []impl.Want{putWant(0, 0), putWant(9, 999), cutWant(0), cutWant(9), jobWant(1, 0, 0, 0), jobWant(20, lastTime, 9, 999), readWant(0), readWant(9)} {
		wantIs(t, "WantOk of a good request", impl.WantOk(w), true)
		wantIs(t, "its definition", wantOkByHand(w), true)
	}
	for i, w := range []impl.Want{
		{}, readWant(10), readWant(-1), putWant(10, 0), putWant(0, 1000), putWant(-1, 0), putWant(0, -1), cutWant(10), cutWant(-1), jobWant(0, 0, 0, 0), jobWant(21, 0, 0, 0), jobWant(1, lastTime+1, 0, 0), jobWant(1, -1, 0, 0), jobWant(1, 0, 10, 0), jobWant(1, 0, 0, 1000),
		{Kind: impl.WtPut, Op: opOf(2, 1, 0, 0, 0)}, {Kind: impl.WtPut, Op: opOf(3, 1, 0, 0, 0)}, {Kind: impl.WtPut, Op: opOf(5, 1, 0, 0, 0)}, {Kind: impl.WtCut, Op: opOf(1, 1, 0, 0, 0)}, {Kind: impl.WtCut, Op: opOf(4, 1, 0, 0, 0)}, {Kind: impl.WtJob, Op: opOf(1, 1, 0, 0, 0)}, {Kind: impl.WtJob, Op: opOf(4, 1, 0, 0, 0)},
		{Kind: 5, Op: opOf(5, 1, 0, 0, 0)}, {Kind: 4, Op: opOf(4, 1, 0, 0, 0)}, {Kind: 0, Op: opOf(1, 1, 0, 0, 0)}, {Kind: 0, Key: 1}, {Kind: 5, Key: 1}, {Kind: 5}, {Kind: -1, Key: 1},
		{Kind: impl.WtPut, Op: opOf(1, 1, 0, 0, 0), Key: 1}, {Kind: impl.WtCut, Op: opOf(2, 1, 0, 0, 0), Key: 9}, {Kind: impl.WtJob, Op: opOf(3, 1, 0, 0, 0), Key: -1}, {Kind: impl.WtPut, Key: 1}, {Kind: impl.WtPut}, {Kind: impl.WtCut}, {Kind: impl.WtJob},
		{Kind: impl.WtRead, Op: opOf(1, 1, 0, 0, 0), Key: 1}, {Kind: impl.WtRead, Op: opOf(2, 0, 0, 0, 0)}, {Kind: impl.WtRead, Op: opOf(0, 1, 0, 0, 0), Key: 1}, {Kind: impl.WtRead, Op: opOf(0, 0, 0, 0, 1), Key: 1},
	} {
		wantIs(t, "WantOk of bad request "+strconv.Itoa(i), impl.WantOk(w), false)
		wantIs(t, "the definition of bad request "+strconv.Itoa(i), wantOkByHand(w), false)
	}
}

// Each kind with each operation and each key, at the limits of all of them and beyond.
func TestWantOk(t *testing.T) {
	kinds := append([]int64{-1, 0, 1, 2, 3, 4, 5, 6}, wildNumbers()...)
	keys := append([]int64{0, 1, 5, 8, 9, 10, 11}, wildNumbers()...)
	count := map[int64]int{}
	try := func(kind, key int64, o []int64) {
		w := impl.Want{Kind: kind, Op: opOf(o...), Key: key}
		want := wantOkByHand(w)
		if want {
			count[kind]++
		}
		if impl.WantOk(w) != want {
			t.Errorf("WantOk: got %v: %+v", !want, w)
		}
	}
	ops := append([][]int64{repeated(5, 0)}, goodOps()...)
	for _, kind := range kinds {
		for _, key := range keys {
			for _, o := range ops {
				try(kind, key, o)
			}
		}
	}
	for _, o := range badOps() {
		for kind := int64(0); kind <= 5; kind++ {
			try(kind, 0, o)
			try(kind, 9, o)
		}
	}
	for i := range 5 {
		for _, x := range someNumbers() {
			for key := int64(-1); key <= 10; key++ {
				try(4, key, numberAt(repeated(5, 0), i, x))
			}
		}
	}
	if len(count) != 4 || count[1] < 30 || count[2] < 30 || count[3] < 30 || count[4] < 5 {
		t.Errorf("too few requests are valid: %v", count)
	}
}

// wantClientOk fails the test if ClientOk or its definition is not as wanted.
func wantClientOk(t *testing.T, what string, c impl.Client, want bool) {
	t.Helper()
	wantIs(t, "ClientOk of "+what, impl.ClientOk(c), want)
	wantIs(t, "the definition of "+what, clientOkByHand(c), want)
}

func TestClientOkOfGoodAndBadClients(t *testing.T) {
	for i, c := range goodClients() {
		wantClientOk(t, "good client "+strconv.Itoa(i), c, true)
	}
	for i, c := range badClients() {
		wantClientOk(t, "bad client "+strconv.Itoa(i), c, false)
	}
}

// Each number and each slice of a client changed by itself, with the limits of all fields.
func TestClientOkWithEachFieldChanged(t *testing.T) {
	count := map[bool]int{}
	for i, c := range goodClients() {
		changesOf(c, func(old int64) []int64 { return append(someNumbers(), otherNumbers(old)...) }, func(what string, changed impl.Client) {
			want := clientOkByHand(changed)
			count[want]++
			if impl.ClientOk(changed) != want {
				t.Errorf("ClientOk of good client %d, %s: got %v: %+v", i, what, !want, changed)
			}
		})
	}
	if count[true] < 5000 || count[false] < 100000 {
		t.Errorf("too few clients are valid or too few are not: %v", count)
	}
}

func TestClientOkOfIds(t *testing.T) {
	for _, id := range someNumbers() {
		for _, c := range []impl.Client{clientWith(id, nil), clientWith(id, mixedTodo()), clientWith(id, firstRead(), resultsOf(firstRead(), 4, 1, 0)...)} {
			wantClientOk(t, "the Id "+textOf([]int64{id}), c, id == impl.NodeAnn || id == impl.NodeBob)
		}
	}
}

// As many requests as can be and more, and one that is not valid at each place.
func TestClientOkOfTodo(t *testing.T) {
	for many := range 30 {
		for _, w := range mixedTodo() {
			todo := slices.Repeat([]impl.Want{w}, many)
			wantClientOk(t, strconv.Itoa(many)+" requests", clientWith(4, todo), many <= 12)
			wantClientOk(t, strconv.Itoa(many)+" requests with results", clientWith(5, todo, resultsOf(todo, many, 1, 0)...), many <= 12)
		}
	}
	for i := range 12 {
		for _, w := range []impl.Want{{}, readWant(10), putWant(1, 1000), {Kind: 5}, {Kind: impl.WtPut, Op: opOf(5, 1, 0, 0, 0)}, {Kind: impl.WtRead, Op: opOf(2, 1, 0, 0, 0)}} {
			todo := mixedTodo()
			todo[i] = w
			wantClientOk(t, "a bad request", clientWith(4, todo), false)
			wantClientOk(t, "a bad request at the end", clientWith(4, todo[:i+1]), false)
			wantClientOk(t, "a bad request behind results", clientWith(4, todo, resultsOf(todo, i, 7, 3)...), false)
		}
	}
}

// As many results as can be and more.
func TestClientOkOfTheNumberOfGots(t *testing.T) {
	todo := mixedTodo()
	more := append(mixedTodo(), readWant(1), readWant(2))
	for requests := range 13 {
		for results := range 15 {
			wantClientOk(t, "as many results", clientWith(4, todo[:requests], resultsOf(more, results, 7, 3)...), results <= requests)
		}
	}
	last := clientWith(4, todo[:1], gotOf(1, 5, 0, 0), gotOf(1, 5, 0, 0))
	wantClientOk(t, "a result twice", last, false)
	wantClientOk(t, "results of more than the requests", clientWith(4, nil, gotOf(1, 1, 0, 0)), false)
}

func TestClientOkOfSeqs(t *testing.T) {
	good := clientWith(4, mixedTodo(), resultsOf(mixedTodo(), 12, 7, 3)...)
	for i := range good.Gots {
		right := int64(i) + 1
		for _, seq := range append([]int64{right - 1, right, right + 1, 0, 1, 12, 13}, wildNumbers()...) {
			c := cloned(good)
			c.Gots[i].Seq = seq
			wantClientOk(t, "a result with the Seq "+textOf([]int64{right, seq}), c, seq == right)
			c.Gots = c.Gots[:i+1]
			c.Last = c.Gots[i].Index
			wantClientOk(t, "the last result with the Seq "+textOf([]int64{right, seq}), c, seq == right)
		}
	}
	// The results of other requests than the first ones.
	c := clientWith(4, good.Todo, good.Gots[3:]...)
	wantClientOk(t, "results of later requests", c, false)
	c = clientWith(4, good.Todo, slices.Concat(good.Gots[:2], good.Gots[3:])...)
	wantClientOk(t, "a request without a result between others", c, false)
}

// The Index of the second of two results, by what the two requests are.
func TestClientOkOfIndices(t *testing.T) {
	for _, one := range []impl.Want{cutWant(1), readWant(1)} {
		for _, other := range []impl.Want{putWant(1, 2), cutWant(1), jobWant(1, 2, 3, 4), readWant(1)} {
			for _, first := range []int64{0, 1, 7, 1999, 2000} {
				for _, second := range append([]int64{first - 1, first, first + 1, 0, 1, 1999, 2000, 2001}, wildNumbers()...) {
					is := second > first && second <= 2000 || other.Kind == impl.WtRead && second == first
					is = is && (first > 0 || one.Kind == impl.WtRead)
					what := "the indices " + textOf([]int64{one.Kind, first, other.Kind, second})
					wantClientOk(t, what, clientWith(4, []impl.Want{one, other}, gotOf(1, first, 0, 0), gotOf(2, second, 0, 0)), is)
				}
			}
		}
	}
	for _, w := range mixedTodo() {
		for _, index := range append([]int64{0, 1, 2, 1999, 2000, 2001}, wildNumbers()...) {
			is := index >= 1 && index <= 2000 || index == 0 && w.Kind == impl.WtRead
			wantClientOk(t, "the first Index "+textOf([]int64{w.Kind, index}), clientWith(5, []impl.Want{w}, gotOf(1, index, 0, 0)), is)
		}
	}
}

func TestClientOkOfHasAndValue(t *testing.T) {
	values := append([]int64{0, 1, 2, 500, 998, 999, 1000}, wildNumbers()...)
	for _, w := range mixedTodo() {
		for _, has := range append([]int64{0, 1, 2, 3}, wildNumbers()...) {
			for _, value := range values {
				is := has == 0 && value == 0 || w.Kind == impl.WtRead && has == 1 && value >= 0 && value <= 999
				what := "Has and Value " + textOf([]int64{w.Kind, has, value})
				wantClientOk(t, what, clientWith(4, []impl.Want{w}, gotOf(1, 1, has, value)), is)
				wantClientOk(t, what, clientWith(4, []impl.Want{readWant(1), w, cutWant(1)}, gotOf(1, 3, 1, 999), gotOf(2, 4, has, value), gotOf(3, 5, 0, 0)), is)
			}
		}
	}
}

func TestClientOkOfLast(t *testing.T) {
	for i, good := range goodClients() {
		for _, last := range append([]int64{good.Last - 1, good.Last, good.Last + 1, 0, 1, 2, 1999, 2000, 2001}, wildNumbers()...) {
			c := good
			c.Last = last
			wantClientOk(t, "good client "+strconv.Itoa(i)+" with the Last "+textOf([]int64{last}), c, last == good.Last)
		}
	}
	c := clientWith(4, firstRead(), gotOf(1, 4, 0, 0), gotOf(2, 9, 0, 0))
	c.Last = 4
	wantClientOk(t, "the Last of an earlier result", c, false)
	c = clientWith(4, firstRead())
	c.Last = 1
	wantClientOk(t, "a Last without results", c, false)
}

// wantNewClient fails the test if NewClient does not return the client, if there is one.
func wantNewClient(t *testing.T, id int64, todo []impl.Want) {
	t.Helper()
	want := impl.Client{Id: id, Todo: todo}
	if !clientOkByHand(want) {
		want = impl.Client{}
	}
	wantEqual(t, "NewClient", impl.NewClient(id, todo), want)
}

func TestNewClient(t *testing.T) {
	todo := mixedTodo()
	wantEqual(t, "NewClient of Ann", impl.NewClient(4, todo), impl.Client{Id: 4, Todo: mixedTodo()})
	wantEqual(t, "NewClient of Bob", impl.NewClient(5, todo[:3]), impl.Client{Id: 5, Todo: mixedTodo()[:3]})
	wantEqual(t, "NewClient without requests", impl.NewClient(4, nil), impl.Client{Id: 4})
	wantEqual(t, "NewClient with the Id 3", impl.NewClient(3, todo), impl.Client{})
	for _, id := range someNumbers() {
		for many := range 15 {
			wantNewClient(t, id, append(mixedTodo(), mixedTodo()...)[:many])
		}
	}
	for _, c := range append(goodClients(), badClients()...) {
		wantNewClient(t, 4, c.Todo)
		wantNewClient(t, c.Id, c.Todo)
	}
}

// AllDone, NextSeq, SendOf and AcksOf of each valid client.
func TestClientsByHand(t *testing.T) {
	for i, c := range goodClients() {
		what := " of good client " + strconv.Itoa(i)
		wantIs(t, "AllDone"+what, impl.AllDone(c), len(c.Gots) == len(c.Todo))
		equalInts(t, "NextSeq"+what, []int64{impl.NextSeq(c)}, []int64{nextByHand(c)})
		wantEqual(t, "SendOf"+what, impl.SendOf(c), sendByHand(c))
		wantEqual(t, "AcksOf"+what, impl.AcksOf(c), acksByHand(c))
		for _, m := range impl.SendOf(c) {
			wantIs(t, "MsgOk of SendOf"+what, impl.MsgOk(m), true)
		}
		for _, a := range impl.AcksOf(c) {
			wantIs(t, "AckOk of AcksOf"+what, impl.AckOk(a), true)
		}
	}
}

func TestAllDoneAndNextSeq(t *testing.T) {
	c := impl.NewClient(4, firstRead()[1:])
	wantIs(t, "AllDone of a new client", impl.AllDone(c), false)
	equalInts(t, "NextSeq of a new client", []int64{impl.NextSeq(c)}, []int64{1})
	for many := range 13 {
		c = clientWith(5, mixedTodo(), resultsOf(mixedTodo(), many, 1, 0)...)
		wantIs(t, "AllDone with "+strconv.Itoa(many)+" results", impl.AllDone(c), many == 12)
		equalInts(t, "NextSeq", []int64{impl.NextSeq(c)}, []int64{int64(many+1) % 13})
	}
	wantIs(t, "AllDone without requests", impl.AllDone(impl.NewClient(4, nil)), true)
	equalInts(t, "NextSeq without requests", []int64{impl.NextSeq(impl.NewClient(4, nil))}, []int64{0})
}

func TestSendOf(t *testing.T) {
	for _, c := range []struct {
		c    impl.Client
		want []impl.Msg
	}{
		{impl.NewClient(4, []impl.Want{putWant(3, 70), readWant(1)}), []impl.Msg{msgOf(4, 0, 1, 4, 1, 1, 3, 70, 0, 0)}},
		{impl.NewClient(5, []impl.Want{jobWant(3, 40, 9, 999)}), []impl.Msg{msgOf(5, 0, 1, 5, 1, 3, 3, 40, 9, 999)}},
		{clientWith(5, []impl.Want{readWant(1), cutWant(8)}, gotOf(1, 9, 1, 3)), []impl.Msg{msgOf(5, 0, 1, 5, 2, 2, 8, 0, 0, 0)}},
		{impl.NewClient(5, []impl.Want{readWant(9)}), []impl.Msg{msgOf(5, 1, 6, 5, 1, 9, 0)}},
		{clientWith(4, []impl.Want{cutWant(8), readWant(9)}, gotOf(1, 2000, 0, 0)), []impl.Msg{msgOf(4, 1, 6, 4, 2, 9, 2000)}},
		{clientWith(4, mixedTodo(), resultsOf(mixedTodo(), 11, 7, 3)...), []impl.Msg{msgOf(4, 0, 1, 4, 12, 3, 1, 0, 0, 0)}},
		{clientWith(4, mixedTodo(), resultsOf(mixedTodo(), 12, 7, 3)...), nil},
		{clientWith(4, []impl.Want{readWant(1)}, gotOf(1, 9, 1, 3)), nil},
		{impl.NewClient(4, nil), nil},
		{impl.NewClient(3, mixedTodo()), nil},
		{impl.Client{Id: 4, Todo: mixedTodo(), Last: 1}, nil},
	} {
		wantEqual(t, "SendOf", impl.SendOf(c.c), c.want)
	}
}

// wantHeardAck fails the test if an acknowledgment leaves another client.
func wantHeardAck(t *testing.T, c impl.Client, a impl.Ack, want impl.Client) {
	t.Helper()
	wantEqual(t, "HeardAck "+textOf(ackInts(a)), impl.HeardAck(c, a), want)
	wantEqual(t, "the definition of HeardAck "+textOf(ackInts(a)), heardAckByHand(c, a), want)
}

// wantHeardValue fails the test if an answer to a read leaves another client.
func wantHeardValue(t *testing.T, c impl.Client, v impl.Value, want impl.Client) {
	t.Helper()
	wantEqual(t, "HeardValue "+textOf(valueInts(v)), impl.HeardValue(c, v), want)
	wantEqual(t, "the definition of HeardValue "+textOf(valueInts(v)), heardValueByHand(c, v), want)
}

func TestHeardAck(t *testing.T) {
	todo := []impl.Want{readWant(1), putWant(3, 70), cutWant(2), readWant(4)}
	c := clientWith(4, todo, gotOf(1, 9, 1, 5))
	for _, index := range []int64{10, 11, 1999, 2000} {
		wantHeardAck(t, c, ackWith(4, 2, index, 2), clientWith(4, todo, gotOf(1, 9, 1, 5), gotOf(2, index, 0, 0)))
	}
	for _, a := range []impl.Ack{
		// of another client, of an earlier and a later request, with an Index that is at or below Last
		ackWith(5, 2, 10, 2), ackWith(3, 2, 10, 2), ackWith(2, 2, 10, 2), ackWith(4, 1, 10, 1), ackWith(4, 3, 10, 3), ackWith(4, 4, 10, 4), ackWith(4, 12, 10, 12), ackWith(4, 2, 9, 2), ackWith(4, 2, 8, 2), ackWith(4, 2, 1, 2),
		// with Index 0, of a request that is older than the last one
		ackWith(4, 2, 0, 3), ackWith(4, 2, 0, 2000), ackWith(4, 1, 0, 2),
		// not valid
		{}, ackWith(4, 2, 0, 2), ackWith(4, 2, 10, 3), ackWith(4, 2, 10, 1), ackWith(4, 2, 2001, 2), ackWith(4, 2, math.MaxInt64, 2), ackWith(4, 2, 10, 2000), ackWith(4, 2, 10, math.MinInt64), ackWith(4, 2, -10, 2), ackWith(4, 2, math.MinInt64, 2), ackWith(4, 2, 10, 0),
	} {
		wantHeardAck(t, c, a, c)
	}
	// The next request is a read, of which an acknowledgment says nothing.
	for _, c := range []impl.Client{clientWith(4, todo), clientWith(4, todo, gotOf(1, 9, 1, 5), gotOf(2, 10, 0, 0), gotOf(3, 12, 0, 0))} {
		seq := nextByHand(c)
		for _, index := range []int64{1, 12, 13, 2000} {
			wantHeardAck(t, c, ackWith(4, seq, index, seq), c)
			wantHeardAck(t, c, ackWith(4, seq+1, index, seq+1), c)
		}
	}
	// Without a result the first index is accepted.
	wantHeardAck(t, clientWith(5, todo[1:]), ackWith(5, 1, 1, 1), clientWith(5, todo[1:], gotOf(1, 1, 0, 0)))
	// All requests have results, or there are none.
	for _, c := range []impl.Client{clientWith(4, nil), clientWith(4, todo[1:2], gotOf(1, 3, 0, 0)), clientWith(4, mixedTodo(), resultsOf(mixedTodo(), 12, 7, 3)...)} {
		for _, seq := range []int64{0, 1, 2, 12, 13} {
			wantHeardAck(t, c, ackWith(4, seq, 1900, seq), c)
		}
	}
}

func TestHeardValue(t *testing.T) {
	todo := []impl.Want{putWant(3, 70), readWant(1), readWant(2), cutWant(4)}
	c := clientWith(5, todo, gotOf(1, 9, 0, 0))
	for _, index := range []int64{9, 10, 1999, 2000} {
		for _, held := range [][2]int64{{0, 0}, {1, 0}, {1, 7}, {1, 999}} {
			wantHeardValue(t, c, valueWith(5, 2, index, held[0], held[1]), clientWith(5, todo, gotOf(1, 9, 0, 0), gotOf(2, index, held[0], held[1])))
		}
	}
	for _, v := range []impl.Value{
		// of another client, of an earlier and a later request, with an Index that is below Last
		valueWith(4, 2, 10, 1, 7), valueWith(3, 2, 10, 1, 7), valueWith(2, 2, 10, 1, 7), valueWith(5, 1, 10, 1, 7), valueWith(5, 3, 10, 1, 7), valueWith(5, 4, 10, 0, 0), valueWith(5, 12, 10, 1, 7), valueWith(5, 2, 8, 1, 7), valueWith(5, 2, 1, 1, 7), valueWith(5, 2, 0, 0, 0),
		// not valid
		{}, valueWith(5, 2, 2001, 1, 7), valueWith(5, 2, math.MaxInt64, 1, 7), valueWith(5, 2, -1, 1, 7), valueWith(5, 2, 10, 2, 7), valueWith(5, 2, 10, -1, 7), valueWith(5, 2, 10, 0, 7), valueWith(5, 2, 10, 1, 1000), valueWith(5, 2, 10, 1, -1), valueWith(5, 2, 10, 1, math.MinInt64), valueWith(5, 2, 10, math.MaxInt64, 0),
	} {
		wantHeardValue(t, c, v, c)
	}
	// The next request is a write, to which a value is no answer.
	for _, c := range []impl.Client{clientWith(5, todo), clientWith(5, todo, gotOf(1, 9, 0, 0), gotOf(2, 9, 1, 5), gotOf(3, 12, 0, 0))} {
		seq := nextByHand(c)
		for _, index := range []int64{0, 1, 12, 13, 2000} {
			wantHeardValue(t, c, valueWith(5, seq, index, 0, 0), c)
			wantHeardValue(t, c, valueWith(5, seq, index, 1, 7), c)
			wantHeardValue(t, c, valueWith(5, seq+1, index, 0, 0), c)
		}
	}
	// Without a result every index is accepted, that of the empty state among them.
	for _, index := range []int64{0, 1, 2000} {
		wantHeardValue(t, clientWith(4, todo[1:]), valueWith(4, 1, index, 0, 0), clientWith(4, todo[1:], gotOf(1, index, 0, 0)))
	}
	// All requests have results, or there are none.
	for _, c := range []impl.Client{clientWith(4, nil), clientWith(4, todo[1:2], gotOf(1, 3, 0, 0)), clientWith(4, mixedTodo(), resultsOf(mixedTodo(), 12, 7, 3)...)} {
		for _, seq := range []int64{0, 1, 2, 12, 13} {
			wantHeardValue(t, c, valueWith(4, seq, 1900, 1, 7), c)
		}
	}
}

// Every good client with messages that differ from a right one in one or two fields.
func TestEveryMessageToClients(t *testing.T) {
	count := map[string]int{}
	for i, c := range goodClients() {
		seq := nextByHand(c)
		seqs := []int64{seq - 1, seq, seq + 1, 0, 1, 12, 13, 2000, math.MinInt64, math.MaxInt64}
		indices := []int64{c.Last - 1, c.Last, c.Last + 1, c.Last + 2, 0, 1, 2000, 2001, -1, math.MinInt64, math.MaxInt64}
		for _, client := range []int64{c.Id, 9 - c.Id, 0, 1, 2, 3, 6, -1, c.Id + 1<<32, math.MinInt64, math.MaxInt64} {
			for _, s := range seqs {
				for _, index := range indices {
					for _, last := range []int64{s, s - 1, s + 1, 2000} {
						a := ackWith(client, s, index, last)
						got, want := impl.HeardAck(c, a), heardAckByHand(c, a)
						if !same(got, want) {
							t.Errorf("HeardAck %v of good client %d: got %+v, want %+v", a, i, got, want)
						}
						if !same(want, c) {
							count["ack"]++
						}
					}
					for _, held := range [][2]int64{{0, 0}, {1, 0}, {1, 999}, {0, 1}, {2, 5}, {1, 1000}, {-1, 0}} {
						v := valueWith(client, s, index, held[0], held[1])
						got, want := impl.HeardValue(c, v), heardValueByHand(c, v)
						if !same(got, want) {
							t.Errorf("HeardValue %v of good client %d: got %+v, want %+v", v, i, got, want)
						}
						if !same(want, c) {
							count["value"]++
						}
					}
				}
			}
		}
	}
	if count["ack"] < 60 || count["value"] < 120 {
		t.Errorf("too few messages are accepted: %v", count)
	}
}

// A right message with each of its fields at each number.
func TestMessagesToClientsWithChangedNumbers(t *testing.T) {
	todo := []impl.Want{putWant(3, 70), readWant(1), cutWant(4)}
	writer, reader := clientWith(4, todo, gotOf(1, 3, 0, 0), gotOf(2, 5, 1, 70)), clientWith(5, todo, gotOf(1, 3, 0, 0))
	ack, value := []int64{4, 3, 6, 3}, []int64{5, 2, 3, 1, 70}
	for _, x := range someNumbers() {
		for i := range ack {
			a := ackOf(numberAt(ack, i, x))
			wantHeardAck(t, writer, a, heardAckByHand(writer, a))
			wantHeardAck(t, reader, a, reader)
		}
		for i := range value {
			v := valueOf(numberAt(value, i, x))
			wantHeardValue(t, reader, v, heardValueByHand(reader, v))
			wantHeardValue(t, writer, v, writer)
		}
	}
}

func TestAcksOf(t *testing.T) {
	reads := []impl.Want{readWant(1), readWant(2)}
	writes := []impl.Want{putWant(1, 2), cutWant(1), jobWant(1, 2, 3, 4)}
	for _, c := range []struct {
		c    impl.Client
		want []impl.Ack
	}{
		{impl.NewClient(4, nil), nil}, {impl.NewClient(4, writes), nil}, {impl.NewClient(3, writes), nil},
		{clientWith(4, reads, gotOf(1, 3, 0, 0)), nil}, {clientWith(4, reads, gotOf(1, 3, 0, 0), gotOf(2, 3, 1, 9)), nil},
		{clientWith(4, writes, gotOf(1, 3, 0, 0)), []impl.Ack{ackWith(4, 1, 3, 1)}},
		{clientWith(5, writes, gotOf(1, 3, 0, 0), gotOf(2, 4, 0, 0), gotOf(3, 2000, 0, 0)), []impl.Ack{ackWith(5, 1, 3, 1), ackWith(5, 2, 4, 2), ackWith(5, 3, 2000, 3)}},
		{clientWith(5, firstRead(), gotOf(1, 0, 0, 0), gotOf(2, 4, 1, 9), gotOf(3, 5, 0, 0), gotOf(4, 7, 0, 0)), []impl.Ack{ackWith(5, 3, 5, 3)}},
		{clientWith(4, slices.Concat(writes, reads, writes), gotOf(1, 1, 0, 0), gotOf(2, 2, 0, 0), gotOf(3, 4, 0, 0), gotOf(4, 4, 1, 0), gotOf(5, 8, 0, 0), gotOf(6, 9, 0, 0)), []impl.Ack{ackWith(4, 1, 1, 1), ackWith(4, 2, 2, 2), ackWith(4, 3, 4, 3), ackWith(4, 6, 9, 6)}},
	} {
		wantEqual(t, "AcksOf", impl.AcksOf(c.c), c.want)
	}
}

// wantSameClient fails the test if SameClient is not as wanted, both ways.
func wantSameClient(t *testing.T, what string, a, b impl.Client, want bool) {
	t.Helper()
	wantAlike(t, "SameClient, "+what, impl.SameClient, a, b, want)
}

func TestSameClient(t *testing.T) {
	good := goodClients()
	for i, c := range good {
		wantSameClient(t, "a copy of good client "+strconv.Itoa(i), c, cloned(c), true)
		for _, other := range good {
			wantSameClient(t, "two good clients", c, other, same(c, other))
		}
		changesOf(c, otherNumbers, func(what string, changed impl.Client) {
			if impl.SameClient(c, changed) || impl.SameClient(changed, c) || !impl.SameClient(changed, changed) {
				t.Errorf("SameClient does not tell good client %d apart from the one with %s", i, what)
			}
		})
	}
	for i, c := range badClients() {
		wantSameClient(t, "a copy of bad client "+strconv.Itoa(i), c, cloned(c), true)
		wantSameClient(t, "a bad client and a good one", c, good[i%len(good)], same(c, good[i%len(good)]))
	}
	wantSameClient(t, "nil and empty", impl.Client{Todo: []impl.Want{}, Gots: []impl.Got{}}, impl.Client{}, true)
	wantSameClient(t, "zero elements", impl.Client{Todo: make([]impl.Want, 1)}, impl.Client{Gots: make([]impl.Got, 1)}, false)
	// They differ where operations or keys with the same numbers have other places.
	one, other := impl.Client{Todo: []impl.Want{{Kind: 1, Op: opOf(1, 2, 0, 0, 0)}}}, impl.Client{Todo: []impl.Want{{Kind: 1, Op: opOf(1, 0, 2, 0, 0)}}}
	wantSameClient(t, "numbers exchanged", one, other, false)
	wantSameClient(t, "numbers exchanged", impl.Client{Gots: []impl.Got{gotOf(1, 2, 0, 0)}}, impl.Client{Gots: []impl.Got{gotOf(2, 1, 0, 0)}}, false)
	wantSameClient(t, "the Id and Last exchanged", impl.Client{Id: 4, Last: 5}, impl.Client{Id: 5, Last: 4}, false)
}

// Of a client that is not valid nothing is returned, whatever it is told.
func TestBadClients(t *testing.T) {
	for i, c := range badClients() {
		what := " of bad client " + strconv.Itoa(i)
		wantIs(t, "AllDone"+what, impl.AllDone(c), false)
		equalInts(t, "NextSeq"+what, []int64{impl.NextSeq(c)}, []int64{0})
		wantEqual(t, "SendOf"+what, impl.SendOf(c), nil)
		wantEqual(t, "AcksOf"+what, impl.AcksOf(c), nil)
		for _, client := range []int64{4, 5, c.Id} {
			for _, seq := range []int64{1, int64(len(c.Gots)), int64(len(c.Gots)) + 1, 0} {
				for _, index := range []int64{c.Last, c.Last + 1, 2000, 0} {
					wantEqual(t, "HeardAck"+what, impl.HeardAck(c, ackWith(client, seq, index, seq)), impl.Client{})
					wantEqual(t, "HeardValue"+what, impl.HeardValue(c, valueWith(client, seq, index, 0, 0)), impl.Client{})
				}
			}
		}
		wantEqual(t, "HeardAck of nothing"+what, impl.HeardAck(c, impl.Ack{}), impl.Client{})
		wantEqual(t, "HeardValue of nothing"+what, impl.HeardValue(c, impl.Value{}), impl.Client{})
	}
}

// A customer is a client with what was true of it before: its requests and its results.
type customer struct {
	c    impl.Client
	todo []impl.Want
	gots []impl.Got
}

func newCustomer(id int64, todo []impl.Want) *customer {
	return &customer{c: impl.NewClient(id, todo), todo: slices.Clone(todo)}
}

// settle takes over the client after a message: it is valid, it has the results that it had, at most
// one more, which is that of the next request, and the index that it knows has not decreased.
func (m *customer) settle(t *testing.T, what string, next impl.Client) {
	t.Helper()
	more := len(next.Gots) - len(m.gots)
	if !impl.ClientOk(next) || next.Id != m.c.Id || next.Last < m.c.Last || !slices.Equal(next.Todo, m.todo) || more < 0 || more > 1 {
		t.Fatalf("%s: not a client that follows %+v: %+v", what, m.c, next)
	}
	if !slices.Equal(next.Gots[:len(m.gots)], m.gots) {
		t.Fatalf("%s: the results %v have become %v", what, m.gots, next.Gots)
	}
	for i, g := range next.Gots {
		if g.Seq != int64(i)+1 {
			t.Fatalf("%s: result %d is that of request %d: %+v", what, i, g.Seq, next)
		}
	}
	m.c, m.gots = next, slices.Clone(next.Gots)
}

// hear gives a message to the client; one that is neither an Ack nor a Value is not one for it.
func (m *customer) hear(t *testing.T, row []int64) {
	t.Helper()
	what := "after " + textOf(row)
	if a, is := impl.RowAck(row); is {
		want := heardAckByHand(m.c, a)
		m.settle(t, what, impl.HeardAck(m.c, a))
		wantEqual(t, what, m.c, want)
	}
	if v, is := impl.RowValue(row); is {
		want := heardValueByHand(m.c, v)
		m.settle(t, what, impl.HeardValue(m.c, v))
		wantEqual(t, what, m.c, want)
	}
}

// wantResults fails the test if the client has other results, by their indices.
func (m *customer) wantResults(t *testing.T, what string, indices ...int64) {
	t.Helper()
	var got []int64
	for _, g := range m.gots {
		got = append(got, g.Index)
	}
	equalInts(t, what, got, indices)
}

// A client that hears what it waits for, and then the same again, and what is late or early.
func TestClientHearsInOrderTwiceAndLate(t *testing.T) {
	m := newCustomer(4, []impl.Want{putWant(1, 5), readWant(1), readWant(2), cutWant(1), readWant(1)})
	answers := [][]int64{{2, 4, 1, 3, 1}, {7, 4, 2, 3, 1, 5}, {7, 4, 3, 6, 0, 0}, {2, 4, 4, 7, 4}, {7, 4, 5, 9, 0, 0}}
	indices := []int64{3, 3, 6, 7, 9}
	for i, row := range answers {
		for k := len(answers) - 1; k > i; k-- {
			m.hear(t, answers[k])
		}
		m.wantResults(t, "after early messages", indices[:i]...)
		wantEqual(t, "what is sent", impl.SendOf(m.c), sendByHand(m.c))
		m.hear(t, row)
		m.wantResults(t, "after the right message", indices[:i+1]...)
		for _, old := range answers[:i+1] {
			m.hear(t, old)
			m.hear(t, numberAt(old, 3, old[3]+1))
		}
		m.wantResults(t, "after late messages", indices[:i+1]...)
	}
	wantIs(t, "all is done", impl.AllDone(m.c), true)
	wantEqual(t, "the acknowledgments", impl.AcksOf(m.c), []impl.Ack{ackWith(4, 1, 3, 1), ackWith(4, 4, 7, 4)})
}

// A late value is not older than what the client knows, and a late acknowledgment is newer.
func TestClientHearsOldIndices(t *testing.T) {
	m := newCustomer(5, []impl.Want{putWant(1, 5), readWant(1), putWant(1, 6), readWant(1)})
	for _, row := range [][]int64{{2, 5, 1, 10, 1}, {7, 5, 2, 9, 1, 5}, {7, 5, 2, 0, 0, 0}} {
		m.hear(t, row)
	}
	m.wantResults(t, "after a value that is too old", 10)
	for _, row := range [][]int64{{7, 5, 2, 12, 1, 5}, {2, 5, 3, 11, 3}, {2, 5, 3, 12, 3}, {2, 5, 3, 0, 4}} {
		m.hear(t, row)
	}
	m.wantResults(t, "after an acknowledgment that is too old", 10, 12)
	for _, row := range [][]int64{{2, 5, 3, 13, 3}, {7, 5, 4, 12, 1, 5}, {7, 5, 4, 13, 1, 6}} {
		m.hear(t, row)
	}
	m.wantResults(t, "at the end", 10, 12, 13, 13)
}

// permuted calls use with each order of the rows.
func permuted(rows [][]int64, use func(rows [][]int64)) {
	if len(rows) == 0 {
		use(nil)
		return
	}
	for i, row := range rows {
		permuted(slices.Delete(slices.Clone(rows), i, i+1), func(rest [][]int64) { use(append([][]int64{row}, rest...)) })
	}
}

// Each client of three requests hears two answers to each in every order, and then all of them again.
func TestClientHearsInEveryOrder(t *testing.T) {
	done := 0
	for kinds := range 8 {
		var todo []impl.Want
		var answers [][]int64
		for i := range int64(3) {
			seq := i + 1
			if kinds>>i&1 == 1 {
				todo = append(todo, readWant(i))
				answers = append(answers, []int64{7, 4, seq, seq, 1, i}, []int64{7, 4, seq, 4 - seq, 0, 0})
			} else {
				todo = append(todo, putWant(i, i))
				answers = append(answers, []int64{2, 4, seq, seq, seq}, []int64{2, 4, seq, 4 - seq, seq})
			}
		}
		permuted(answers, func(rows [][]int64) {
			m := newCustomer(4, todo)
			for range 3 {
				for _, row := range rows {
					m.hear(t, row)
				}
			}
			if impl.AllDone(m.c) {
				done++
			}
		})
	}
	if done < 1000 {
		t.Errorf("only %d clients have completed their requests", done)
	}
}

// A market is two clients, the log that records what they write, and a state that follows it. Messages
// between them are lost, doubled and delivered in any order.
type market struct {
	log     impl.LogNode
	people  map[int64]*customer
	entries []impl.Entry
	applied int64
	flight  []impl.Msg
}

// follow takes over the log, and what of it is durable.
func (m *market) follow(n impl.LogNode, acks []impl.Ack) {
	m.log = n
	for _, e := range impl.HeldIn(n) {
		if e.Index == int64(len(m.entries))+1 {
			m.entries = append(m.entries, e)
		}
	}
	for _, a := range acks {
		m.flight = append(m.flight, msgOf(0, a.Client, impl.AckRow(a)...))
	}
}

// heldByHand returns what is under a key after the first entries.
func heldByHand(entries []impl.Entry, key int64) (int64, int64) {
	has, value := int64(0), int64(0)
	for _, e := range entries {
		if e.A != key {
			continue
		}
		switch e.Kind {
		case 1:
			has, value = 1, e.B
		case 2:
			has, value = 0, 0
		}
	}
	return has, value
}

// deliver hands a message over; a read of a state that is too old is not answered.
func (m *market) deliver(t *testing.T, msg impl.Msg, now int64) {
	t.Helper()
	if p := m.people[msg.To]; p != nil {
		p.hear(t, msg.Row)
		return
	}
	if a, is := impl.RowAsk(msg.Row); is && msg.To == impl.NodeLog {
		m.follow(impl.AskedOf(m.log, a, now))
		return
	}
	r, is := impl.RowRead(msg.Row)
	wantIs(t, "a Read to the store", is && msg.To == impl.NodeStore, true)
	if m.applied >= r.Least {
		has, value := heldByHand(m.entries[:m.applied], r.Key)
		m.flight = append(m.flight, msgOf(1, r.Client, impl.ValueRow(valueWith(r.Client, r.Seq, m.applied, has, value))...))
	}
}

// step does something at random.
func (m *market) step(t *testing.T, r *rand.Rand, now int64) {
	t.Helper()
	switch r.Intn(12) {
	case 0:
		m.follow(impl.SyncedLog(m.log))
	case 1:
		fates := []int64{r.Int63n(3), r.Int63n(3), r.Int63n(3), r.Int63n(3)}
		n, is := impl.RisenLog(impl.FallenLog(m.log, fates))
		wantIs(t, "RisenLog", is, true)
		m.follow(n, nil)
	case 2:
		m.applied += r.Int63n(int64(len(m.entries)) - m.applied + 1)
	case 3, 4:
		m.flight = append(m.flight, impl.SendOf(m.people[4+r.Int63n(2)].c)...)
	default:
		if len(m.flight) == 0 {
			return
		}
		i := r.Intn(len(m.flight))
		msg := m.flight[i]
		if r.Intn(5) > 0 {
			m.flight = slices.Delete(m.flight, i, i+1)
		}
		if r.Intn(5) > 0 {
			m.deliver(t, msg, now)
		}
	}
}

// check fails the test if a result is not true: the entry of a write is the only one of its request, and
// a read has found what the state with its index has.
func (m *market) check(t *testing.T, id int64) {
	t.Helper()
	p := m.people[id]
	written := map[int64]int{}
	for _, e := range m.entries {
		if e.Client == id {
			written[e.Seq]++
		}
	}
	for _, g := range p.gots {
		w := p.todo[g.Seq-1]
		if w.Kind == impl.WtRead {
			has, value := heldByHand(m.entries[:g.Index], w.Key)
			wantEqual(t, "the result of a read", g, gotOf(g.Seq, g.Index, has, value))
		} else if e := m.entries[g.Index-1]; e.Client != id || e.Seq != g.Seq || e.Op != w.Op || written[g.Seq] != 1 {
			t.Fatalf("result %v of %v is entry %v, one of %d", g, w, e, written[g.Seq])
		}
	}
	for _, a := range impl.AcksOf(p.c) {
		wantEqual(t, "an acknowledgment of AcksOf", a, ackByEntry(m.entries[a.Index-1]))
	}
}

// randomTodo returns requests of all kinds, of few keys.
func randomTodo(r *rand.Rand, many int) []impl.Want {
	var todo []impl.Want
	for range many {
		switch r.Intn(5) {
		case 0:
			todo = append(todo, cutWant(r.Int63n(3)))
		case 1:
			todo = append(todo, jobWant(1+r.Int63n(20), r.Int63n(100), r.Int63n(3), r.Int63n(1000)))
		case 2, 3:
			todo = append(todo, readWant(r.Int63n(3)))
		default:
			todo = append(todo, putWant(r.Int63n(3), r.Int63n(1000)))
		}
	}
	return todo
}

// Promise 13: whatever happens to the messages and to the log, each request is completed once and in
// order, with a result that is true, and what a client knows never decreases.
func TestClientsAtRandom(t *testing.T) {
	done, results := 0, 0
	for seed := range int64(120) {
		r := rand.New(rand.NewSource(seed))
		m := &market{log: impl.NewLog(), people: map[int64]*customer{}}
		for id := int64(4); id <= 5; id++ {
			// The log has room for 20 entries; none is trimmed here.
			m.people[id] = newCustomer(id, randomTodo(r, 4+r.Intn(7)))
		}
		for now := range int64(700) {
			m.step(t, r, now)
		}
		for id := int64(4); id <= 5; id++ {
			m.check(t, id)
			results += len(m.people[id].gots)
			if impl.AllDone(m.people[id].c) {
				done++
			}
		}
		if t.Failed() {
			t.Fatalf("seed %d", seed)
		}
	}
	if done < 100 || results < 1000 {
		t.Errorf("too little has happened: %d clients are done, %d results", done, results)
	}
}

// clientCalls are the functions of this chapter that take a slice. They return all that the function does.
func clientCalls() map[string]func(c impl.Client, a impl.Ack, v impl.Value) []any {
	return map[string]func(c impl.Client, a impl.Ack, v impl.Value) []any{
		"ClientOk":   func(c impl.Client, _ impl.Ack, _ impl.Value) []any { return []any{impl.ClientOk(c)} },
		"NewClient":  func(c impl.Client, _ impl.Ack, _ impl.Value) []any { return []any{impl.NewClient(c.Id, c.Todo)} },
		"AllDone":    func(c impl.Client, _ impl.Ack, _ impl.Value) []any { return []any{impl.AllDone(c)} },
		"NextSeq":    func(c impl.Client, _ impl.Ack, _ impl.Value) []any { return []any{impl.NextSeq(c)} },
		"SendOf":     func(c impl.Client, _ impl.Ack, _ impl.Value) []any { return []any{impl.SendOf(c)} },
		"HeardAck":   func(c impl.Client, a impl.Ack, _ impl.Value) []any { return []any{impl.HeardAck(c, a)} },
		"HeardValue": func(c impl.Client, _ impl.Ack, v impl.Value) []any { return []any{impl.HeardValue(c, v)} },
		"AcksOf":     func(c impl.Client, _ impl.Ack, _ impl.Value) []any { return []any{impl.AcksOf(c)} },
		"SameClient": func(c impl.Client, _ impl.Ack, _ impl.Value) []any {
			return []any{impl.SameClient(c, clientWith(4, mixedTodo())), impl.SameClient(c, c)}
		},
	}
}

// No call changes an argument, its spare capacity included, and no two slices of results, nor one of a
// result and one of an argument, share memory.
func TestClientsShareNoMemory(t *testing.T) {
	bad := badClients()
	clients := append(goodClients(), bad[0], bad[len(bad)/2], bad[len(bad)-1], impl.Client{})
	for name, call := range clientCalls() {
		for i, plain := range clients {
			seq := int64(len(plain.Gots)) + 1
			for _, s := range []int64{seq, seq + 1} {
				c := roomyCopy(plain)
				before := wholeCopy(c)
				a, v := ackWith(c.Id, s, min(2000, c.Last+1), s), valueWith(c.Id, s, c.Last, 1, 7)
				results := append(call(c, a, v), call(c, a, v)...)
				what := name + " of client " + strconv.Itoa(i)
				wantEqual(t, what+", its argument after it", wholeCopy(c), before)
				wantMemoryApart(t, what, []any{c}, results)
			}
		}
	}
}

// A client that has heard something is not changed by what is heard later, and neither are the requests
// that it was made of.
func TestClientsStayAsTheyWere(t *testing.T) {
	todo := roomyCopy(mixedTodo())
	before := wholeCopy(todo)
	c := impl.NewClient(4, todo)
	var all, copies []impl.Client
	for range 13 {
		all, copies = append(all, c), append(copies, cloned(c))
		seq := nextByHand(c)
		c = impl.HeardAck(c, ackWith(4, seq, c.Last+1, seq))
		c = impl.HeardValue(c, valueWith(4, seq, c.Last, 1, seq))
	}
	wantIs(t, "all is done", impl.AllDone(c), true)
	for i := range all {
		wantEqual(t, "a client after what was heard later", all[i], copies[i])
		// Two next results of the same client do not meet.
		seq := nextByHand(all[i])
		one, other := impl.HeardValue(all[i], valueWith(4, seq, 1000, 1, 3)), impl.HeardValue(all[i], valueWith(4, seq, 1001, 0, 0))
		wantEqual(t, "one of two next clients", one, heardValueByHand(all[i], valueWith(4, seq, 1000, 1, 3)))
		wantMemoryApart(t, "two next clients", []any{all[i]}, []any{one, other})
	}
	wantEqual(t, "the requests", wholeCopy(todo), before)
}
