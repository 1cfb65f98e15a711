package tests

import (
	"math"
	"math/rand"
	"slices"
	"strings"
	"testing"

	"loop.example/g00851/impl"
)

// msgText writes a message with all its numbers; nil and empty rows are written alike.
func msgText(m impl.Msg) string {
	return textOf([]int64{m.From, m.To}) + " [" + textOf(m.Row) + "]"
}

// netText writes a network with all its numbers; nil and empty slices are written alike.
func netText(n impl.Net) string {
	var b strings.Builder
	for _, m := range n.Flight {
		b.WriteString("flight " + msgText(m) + " ")
	}
	for _, l := range n.Cuts {
		b.WriteString("cut " + textOf([]int64{l.A, l.B}) + " ")
	}
	return b.String()
}

// equalNets fails the test if got and want differ.
func equalNets(t *testing.T, what string, got, want impl.Net) {
	t.Helper()
	if netText(got) != netText(want) {
		t.Errorf("%s: got %s, want %s", what, netText(got), netText(want))
	}
}

// equalMsgs fails the test if got and want differ.
func equalMsgs(t *testing.T, what string, got, want impl.Msg) {
	t.Helper()
	if msgText(got) != msgText(want) {
		t.Errorf("%s: got %s, want %s", what, msgText(got), msgText(want))
	}
}

// wantIs fails the test if a call reports something else than want.
func wantIs(t *testing.T, what string, got, want bool) {
	t.Helper()
	if got != want {
		t.Errorf("%s: got %v, want %v", what, got, want)
	}
}

// clonedMsg returns a message with memory of its own.
func clonedMsg(m impl.Msg) impl.Msg {
	return impl.Msg{From: m.From, To: m.To, Row: slices.Clone(m.Row)}
}

// clonedNet returns a network with memory of its own.
func clonedNet(n impl.Net) impl.Net {
	c := impl.Net{Cuts: slices.Clone(n.Cuts)}
	for _, m := range n.Flight {
		c.Flight = append(c.Flight, clonedMsg(m))
	}
	return c
}

// msgOf returns a message.
func msgOf(from, to int64, row ...int64) impl.Msg { return impl.Msg{From: from, To: to, Row: row} }

// netOf returns a network with these messages and no cuts.
func netOf(flight ...impl.Msg) impl.Net { return impl.Net{Flight: flight} }

// cutNet returns a network with these cuts, in this order, and the messages of n.
func cutNet(n impl.Net, cuts ...impl.Link) impl.Net {
	n = clonedNet(n)
	n.Cuts = slices.Clone(cuts)
	return n
}

// sentByHand returns the network with more messages.
func sentByHand(n impl.Net, more ...impl.Msg) impl.Net {
	n = clonedNet(n)
	n.Flight = append(n.Flight, more...)
	return n
}

// removedByHand returns the network with all messages but the one at that index.
func removedByHand(n impl.Net, at int) impl.Net {
	left := impl.Net{Cuts: slices.Clone(n.Cuts)}
	for i, m := range n.Flight {
		if i != at {
			left.Flight = append(left.Flight, clonedMsg(m))
		}
	}
	return left
}

// isCutByHand reports whether the cuts have a link of a and b.
func isCutByHand(n impl.Net, a, b int64) bool {
	return slices.Contains(n.Cuts, impl.Link{A: a, B: b}) || slices.Contains(n.Cuts, impl.Link{A: b, B: a})
}

// allLinks are the links of all nodes, in order.
func allLinks() []impl.Link {
	return []impl.Link{
		{A: 0, B: 1}, {A: 0, B: 2}, {A: 0, B: 3}, {A: 0, B: 4}, {A: 0, B: 5},
		{A: 1, B: 2}, {A: 1, B: 3}, {A: 1, B: 4}, {A: 1, B: 5},
		{A: 2, B: 3}, {A: 2, B: 4}, {A: 2, B: 5},
		{A: 3, B: 4}, {A: 3, B: 5},
		{A: 4, B: 5},
	}
}

// notNodes are numbers that are not nodes.
func notNodes() []int64 {
	return []int64{-1, 6, 7, -6, 1 << 32, 1<<32 + 1, math.MinInt64, math.MaxInt64}
}

// someNodes are all nodes and numbers that are not nodes.
func someNodes() []int64 { return append([]int64{0, 1, 2, 3, 4, 5}, notNodes()...) }

// twoByHand reports whether a and b are two different nodes.
func twoByHand(a, b int64) bool { return 0 <= a && a <= 5 && 0 <= b && b <= 5 && a != b }

// manyMsgs returns messages between all nodes, in turn, no two of them equal.
func manyMsgs(many int) []impl.Msg {
	msgs := make([]impl.Msg, many)
	for i := range msgs {
		from := int64(i) % 6
		to := (from + 1 + int64(i)/6%5) % 6
		msgs[i] = msgOf(from, to, append([]int64{int64(i)}, repeated(i%impl.MaxRow, int64(i))...)...)
	}
	return msgs
}

// goodMsgs are valid, among them the shortest and the longest ones.
func goodMsgs() []impl.Msg {
	msgs := append(manyMsgs(30), msgOf(0, 5, 0), msgOf(5, 0, impl.MaxNum), msgOf(4, 0, 1))
	for _, row := range goodRows() {
		if len(row) > 0 {
			msgs = append(msgs, msgOf(1, 2, row...))
		}
	}
	return msgs
}

// badMsgs are not valid, for one reason each.
func badMsgs() []impl.Msg {
	bad := []impl.Msg{{}, msgOf(0, 1), {From: 4, To: 0, Row: []int64{}}, msgOf(5, 4)}
	for node := range int64(6) {
		bad = append(bad, msgOf(node, node, 1))
	}
	for _, node := range notNodes() {
		bad = append(bad, msgOf(node, 0, 1), msgOf(0, node, 1), msgOf(node, 5, 1), msgOf(5, node, 1), msgOf(node, node, 1))
	}
	for _, row := range badRows() {
		bad = append(bad, msgOf(4, 0, row...))
	}
	return bad
}

// badLinks are not valid, for one reason each.
func badLinks() []impl.Link {
	bad := []impl.Link{{}, {A: 1, B: 0}, {A: 2, B: 1}, {A: 5, B: 0}, {A: 5, B: 4}}
	for node := range int64(6) {
		bad = append(bad, impl.Link{A: node, B: node})
	}
	for _, node := range notNodes() {
		bad = append(bad, impl.Link{A: node, B: 0}, impl.Link{A: 0, B: node}, impl.Link{A: node, B: 5}, impl.Link{A: 5, B: node}, impl.Link{A: node, B: node})
	}
	return bad
}

// goodNets are valid, among them the empty one and the fullest ones.
func goodNets() []impl.Net {
	links := allLinks()
	two := netOf(msgOf(4, 0, 7), msgOf(0, 4, 8, 9))
	few := netOf(manyMsgs(7)...)
	full := netOf(manyMsgs(60)...)
	long := netOf(msgOf(2, 0, repeated(48, impl.MaxNum)...), msgOf(0, 2, repeated(48, 0)...), msgOf(2, 0, 5))
	return []impl.Net{
		{}, {Flight: []impl.Msg{}, Cuts: []impl.Link{}}, netOf(msgOf(4, 0, 7)), two, few, long, netOf(manyMsgs(59)...), full,
		// equal messages, so that only the index tells them apart
		netOf(msgOf(1, 0, 3), msgOf(1, 0, 3), msgOf(1, 0, 3)),
		cutNet(impl.Net{}, links[3]), cutNet(two, links[3]), cutNet(two, links[0]), cutNet(two, links[14]),
		cutNet(few, links[0], links[5], links[14]), cutNet(few, links[1:14]...),
		cutNet(impl.Net{}, links...), cutNet(two, links...), cutNet(full, links...), cutNet(full, links[2], links[7]),
	}
}

// badNets are not valid, for one reason each.
func badNets() []impl.Net {
	links, good := allLinks(), msgOf(4, 0, 7)
	bad := []impl.Net{
		netOf(manyMsgs(61)...), netOf(manyMsgs(1000)...), cutNet(netOf(manyMsgs(61)...), links...),
		// cuts that are repeated or out of order, next to each other and apart
		cutNet(impl.Net{}, links[3], links[3]), cutNet(impl.Net{}, links[0], links[3], links[3]), cutNet(impl.Net{}, links[3], links[4], links[3]),
		cutNet(impl.Net{}, links[1], links[0]), cutNet(impl.Net{}, links[5], links[4]), cutNet(impl.Net{}, links[14], links[0]),
		cutNet(netOf(good), links[5], links[1]), cutNet(impl.Net{}, append(allLinks()[1:], links[0])...),
		// more cuts than there are links
		cutNet(impl.Net{}, append(allLinks(), links[14])...), cutNet(netOf(good), append(allLinks(), impl.Link{A: 5, B: 6})...),
		cutNet(impl.Net{}, slices.Repeat(allLinks(), 2)...),
	}
	back := allLinks()
	slices.Reverse(back)
	bad = append(bad, cutNet(impl.Net{}, back...))
	for _, m := range badMsgs() {
		bad = append(bad, netOf(m), netOf(m, good), netOf(good, m), netOf(good, m, good), cutNet(netOf(good, m), links[0]))
	}
	bad = append(bad, netOf(append(manyMsgs(59), msgOf(1, 1, 1))...), netOf(append([]impl.Msg{msgOf(1, 2)}, manyMsgs(59)...)...))
	for _, l := range badLinks() {
		bad = append(bad, cutNet(impl.Net{}, l), cutNet(netOf(good), l), cutNet(netOf(good), links[0], l), cutNet(netOf(good), l, links[14]))
	}
	return bad
}

// noMsgs are indices at which a network with that many messages has none.
func noMsgs(many int) []int64 {
	n := int64(many)
	return []int64{-1, n, n + 1, -n - 1, impl.MaxFlight, 1 << 32, -1 << 32, math.MinInt64, math.MaxInt64}
}

func TestConstantsOfNets(t *testing.T) {
	nodes := []int64{impl.NodeLog, impl.NodeStore, impl.NodeLeft, impl.NodeRight, impl.NodeAnn, impl.NodeBob}
	equalInts(t, "the nodes", nodes, []int64{0, 1, 2, 3, 4, 5})
	equalInts(t, "the limits", []int64{impl.MaxNodes, impl.MaxFlight, impl.MaxCuts}, []int64{6, 60, 15})
}

func TestMsgOk(t *testing.T) {
	for _, m := range goodMsgs() {
		wantIs(t, "MsgOk of "+msgText(m), impl.MsgOk(m), true)
	}
	for _, m := range badMsgs() {
		wantIs(t, "MsgOk of "+msgText(m), impl.MsgOk(m), false)
	}
	for _, from := range someNodes() {
		for _, to := range someNodes() {
			m := msgOf(from, to, 3)
			wantIs(t, "MsgOk of "+msgText(m), impl.MsgOk(m), twoByHand(from, to))
			wantIs(t, "MsgOk of an empty row", impl.MsgOk(msgOf(from, to)), false)
		}
	}
}

func TestNetOk(t *testing.T) {
	for _, n := range goodNets() {
		wantIs(t, "NetOk of "+netText(n), impl.NetOk(n), true)
	}
	for _, n := range badNets() {
		wantIs(t, "NetOk of "+netText(n), impl.NetOk(n), false)
	}
	for many := range 70 {
		wantIs(t, "NetOk of many messages", impl.NetOk(netOf(manyMsgs(many)...)), many <= 60)
	}
}

// Every set of links in order is a valid list of cuts, and of two links only those in order.
func TestNetOkOfCuts(t *testing.T) {
	links := allLinks()
	for set := range 1 << 15 {
		var cuts []impl.Link
		for i, l := range links {
			if set>>i&1 == 1 {
				cuts = append(cuts, l)
			}
		}
		if n := cutNet(impl.Net{}, cuts...); !impl.NetOk(n) {
			t.Fatalf("a valid network: %s", netText(n))
		}
	}
	for i, first := range links {
		for k, second := range links {
			n := cutNet(netOf(msgOf(0, 1, 2)), first, second)
			wantIs(t, "NetOk of "+netText(n), impl.NetOk(n), i < k)
		}
	}
	for _, a := range someNodes() {
		for _, b := range someNodes() {
			n := cutNet(impl.Net{}, impl.Link{A: a, B: b})
			wantIs(t, "NetOk of "+netText(n), impl.NetOk(n), twoByHand(a, b) && a < b)
		}
	}
}

func TestNewNet(t *testing.T) {
	equalNets(t, "NewNet", impl.NewNet(), impl.Net{})
	wantIs(t, "NetOk of NewNet", impl.NetOk(impl.NewNet()), true)
	for _, l := range allLinks() {
		wantIs(t, "PassesIn of NewNet", impl.PassesIn(impl.NewNet(), l.A, l.B) && impl.PassesIn(impl.NewNet(), l.B, l.A), true)
	}
}

func TestPassesIn(t *testing.T) {
	for _, n := range goodNets() {
		for _, a := range someNodes() {
			for _, b := range someNodes() {
				want := twoByHand(a, b) && !isCutByHand(n, a, b)
				wantIs(t, "PassesIn "+textOf([]int64{a, b})+" of "+netText(n), impl.PassesIn(n, a, b), want)
			}
		}
	}
	// A cut stops both directions of its link, and no other link.
	for _, cut := range allLinks() {
		n := cutNet(impl.Net{}, cut)
		for _, l := range allLinks() {
			wantIs(t, "PassesIn of one cut", impl.PassesIn(n, l.A, l.B), l != cut)
			wantIs(t, "PassesIn of one cut, backwards", impl.PassesIn(n, l.B, l.A), l != cut)
		}
	}
}

// wantSent fails the test if Sent does not return the network wanted.
func wantSent(t *testing.T, n impl.Net, m impl.Msg, is bool, want impl.Net) {
	t.Helper()
	got, ok := impl.Sent(n, m)
	wantIs(t, "Sent "+msgText(m), ok, is)
	equalNets(t, "Sent", got, want)
}

func TestSent(t *testing.T) {
	for _, n := range goodNets() {
		for _, m := range goodMsgs() {
			// A cut does not keep a message from being sent.
			if len(n.Flight) < 60 {
				wantSent(t, n, m, true, sentByHand(n, m))
			} else {
				wantSent(t, n, m, false, n)
			}
		}
		for _, m := range badMsgs() {
			wantSent(t, n, m, false, impl.Net{})
		}
	}
}

func TestSentUntilTooManyAreInFlight(t *testing.T) {
	n, msgs := impl.NewNet(), manyMsgs(62)
	for i, m := range msgs[:60] {
		wantSent(t, n, m, true, netOf(msgs[:i+1]...))
		n, _ = impl.Sent(n, m)
	}
	for _, m := range msgs[60:] {
		wantSent(t, n, m, false, n)
	}
	wantSent(t, n, msgOf(3, 3, 1), false, impl.Net{})
	for _, at := range []int64{0, 30, 59} {
		less, _ := impl.Lost(n, at)
		wantSent(t, less, msgs[60], true, sentByHand(less, msgs[60]))
		handed, _, _ := impl.Handed(n, at)
		wantSent(t, handed, msgs[60], true, sentByHand(handed, msgs[60]))
	}
}

// wantHanded fails the test if Handed does not return the network and the message wanted.
func wantHanded(t *testing.T, n impl.Net, at int64, want impl.Net, msg impl.Msg, is bool) {
	t.Helper()
	got, m, ok := impl.Handed(n, at)
	what := "Handed " + textOf([]int64{at}) + " of " + netText(n)
	wantIs(t, what, ok, is)
	equalNets(t, what, got, want)
	equalMsgs(t, what, m, msg)
}

// wantLost fails the test if Lost does not return the network wanted.
func wantLost(t *testing.T, n impl.Net, at int64, want impl.Net, is bool) {
	t.Helper()
	got, ok := impl.Lost(n, at)
	wantIs(t, "Lost", ok, is)
	equalNets(t, "Lost", got, want)
}

// wantDoubled fails the test if Doubled does not return the network wanted.
func wantDoubled(t *testing.T, n impl.Net, at int64, want impl.Net, is bool) {
	t.Helper()
	got, ok := impl.Doubled(n, at)
	wantIs(t, "Doubled", ok, is)
	equalNets(t, "Doubled", got, want)
}

func TestHandedLostAndDoubledByHand(t *testing.T) {
	a, b, c := msgOf(4, 0, 7), msgOf(0, 4, 8, 9), msgOf(4, 1, 6)
	n := netOf(a, b, c)
	wantHanded(t, n, 0, netOf(b, c), a, true)
	wantHanded(t, n, 1, netOf(a, c), b, true)
	wantHanded(t, n, 2, netOf(a, b), c, true)
	wantHanded(t, n, 3, n, impl.Msg{}, false)
	wantHanded(t, n, -1, n, impl.Msg{}, false)
	wantLost(t, n, 0, netOf(b, c), true)
	wantLost(t, n, 1, netOf(a, c), true)
	wantLost(t, n, 2, netOf(a, b), true)
	wantLost(t, n, 3, n, false)
	wantDoubled(t, n, 0, netOf(a, b, c, a), true)
	wantDoubled(t, n, 1, netOf(a, b, c, b), true)
	wantDoubled(t, n, 2, netOf(a, b, c, c), true)
	wantDoubled(t, n, 3, n, false)
	// Over the cut link both directions are removed and not delivered; other links deliver.
	cut := impl.Link{A: 0, B: 4}
	x := cutNet(n, cut)
	wantHanded(t, x, 0, cutNet(netOf(b, c), cut), impl.Msg{}, false)
	wantHanded(t, x, 1, cutNet(netOf(a, c), cut), impl.Msg{}, false)
	wantHanded(t, x, 2, cutNet(netOf(a, b), cut), c, true)
	wantHanded(t, x, 3, x, impl.Msg{}, false)
	// A message over a cut link can be lost and doubled as any other one.
	wantLost(t, x, 0, cutNet(netOf(b, c), cut), true)
	wantDoubled(t, x, 1, cutNet(netOf(a, b, c, b), cut), true)
	wantHanded(t, cutNet(netOf(a), cut), 0, cutNet(impl.Net{}, cut), impl.Msg{}, false)
	wantHanded(t, netOf(a), 0, impl.Net{}, a, true)
}

func TestHandedLostAndDoubled(t *testing.T) {
	for _, n := range goodNets() {
		for i, m := range n.Flight {
			at, less := int64(i), removedByHand(n, i)
			wantLost(t, n, at, less, true)
			if isCutByHand(n, m.From, m.To) {
				wantHanded(t, n, at, less, impl.Msg{}, false)
			} else {
				wantHanded(t, n, at, less, m, true)
			}
			if len(n.Flight) < 60 {
				wantDoubled(t, n, at, sentByHand(n, m), true)
			} else {
				wantDoubled(t, n, at, n, false)
			}
		}
		for _, at := range noMsgs(len(n.Flight)) {
			wantHanded(t, n, at, n, impl.Msg{}, false)
			wantLost(t, n, at, n, false)
			wantDoubled(t, n, at, n, false)
		}
	}
}

func TestDoubledUntilTooManyAreInFlight(t *testing.T) {
	n := netOf(manyMsgs(1)...)
	for many := 1; many < 60; many++ {
		wantDoubled(t, n, int64(many-1), sentByHand(n, n.Flight[0]), true)
		n, _ = impl.Doubled(n, int64(many-1))
	}
	for at := range int64(62) {
		wantDoubled(t, n, at, n, false)
	}
	n, _ = impl.Lost(n, 59)
	wantDoubled(t, n, 0, sentByHand(n, n.Flight[0]), true)
}

// wantCut fails the test if CutOff does not return the network wanted, in both orders of the nodes.
func wantCut(t *testing.T, n impl.Net, a, b int64, want impl.Net, is bool) {
	t.Helper()
	for _, pair := range [][2]int64{{a, b}, {b, a}} {
		got, ok := impl.CutOff(n, pair[0], pair[1])
		wantIs(t, "CutOff "+textOf(pair[:])+" of "+netText(n), ok, is)
		equalNets(t, "CutOff "+textOf(pair[:]), got, want)
	}
}

// wantHealed fails the test if Healed does not return the network wanted, in both orders of the nodes.
func wantHealed(t *testing.T, n impl.Net, a, b int64, want impl.Net, is bool) {
	t.Helper()
	for _, pair := range [][2]int64{{a, b}, {b, a}} {
		got, ok := impl.Healed(n, pair[0], pair[1])
		wantIs(t, "Healed "+textOf(pair[:])+" of "+netText(n), ok, is)
		equalNets(t, "Healed "+textOf(pair[:]), got, want)
	}
}

// withCuts returns the network with those of all links as cuts that keep selects.
func withCuts(n impl.Net, keep func(l impl.Link) bool) impl.Net {
	return cutNet(n, slices.DeleteFunc(allLinks(), func(l impl.Link) bool { return !keep(l) })...)
}

func TestCutOffAndHealed(t *testing.T) {
	for _, n := range goodNets() {
		for _, l := range allLinks() {
			// The messages in flight remain, those over the link as well.
			with := withCuts(n, func(x impl.Link) bool { return x == l || slices.Contains(n.Cuts, x) })
			less := withCuts(n, func(x impl.Link) bool { return x != l && slices.Contains(n.Cuts, x) })
			isCut := isCutByHand(n, l.A, l.B)
			wantCut(t, n, l.A, l.B, with, !isCut)
			wantHealed(t, n, l.A, l.B, less, isCut)
			// twice
			wantCut(t, with, l.A, l.B, with, false)
			wantHealed(t, less, l.A, l.B, less, false)
			// and back
			wantHealed(t, with, l.A, l.B, less, true)
			wantCut(t, less, l.A, l.B, with, true)
		}
		for _, a := range someNodes() {
			for _, b := range someNodes() {
				if !twoByHand(a, b) {
					wantCut(t, n, a, b, n, false)
					wantHealed(t, n, a, b, n, false)
				}
			}
		}
	}
}

// All links are cut and healed one by one, in many orders.
func TestAllLinksCutAndHealed(t *testing.T) {
	links := allLinks()
	msgs := netOf(manyMsgs(30)...)
	for seed := range int64(40) {
		order := rand.New(rand.NewSource(seed)).Perm(15)
		n := msgs
		for i, k := range order {
			want := withCuts(msgs, func(l impl.Link) bool { return slices.Contains(order[:i+1], slices.Index(links, l)) })
			wantCut(t, n, links[k].A, links[k].B, want, true)
			n, _ = impl.CutOff(n, links[k].B, links[k].A)
		}
		equalNets(t, "all links cut", n, cutNet(msgs, links...))
		wantIs(t, "NetOk of all links cut", impl.NetOk(n), true)
		for at, m := range n.Flight {
			wantIs(t, "PassesIn of all links cut", impl.PassesIn(n, m.From, m.To), false)
			wantHanded(t, n, int64(at), removedByHand(n, at), impl.Msg{}, false)
		}
		for _, l := range links {
			wantCut(t, n, l.A, l.B, n, false)
		}
		for i, k := range order {
			want := withCuts(msgs, func(l impl.Link) bool { return slices.Contains(order[i+1:], slices.Index(links, l)) })
			wantHealed(t, n, links[k].A, links[k].B, want, true)
			n, _ = impl.Healed(n, links[k].A, links[k].B)
		}
		equalNets(t, "all links healed", n, msgs)
	}
}

func TestLettersTo(t *testing.T) {
	n := netOf(msgOf(4, 0, 7), msgOf(0, 4, 8), msgOf(5, 0, 9), msgOf(5, 1, 9), msgOf(1, 0, 9))
	for node, want := range [][]int64{{0, 2, 4}, {3}, nil, nil, {1}, nil} {
		equalInts(t, "LettersTo", impl.LettersTo(n, int64(node)), want)
		// Messages over a cut link are in flight as well.
		equalInts(t, "LettersTo with cuts", impl.LettersTo(cutNet(n, allLinks()...), int64(node)), want)
	}
	for _, n := range goodNets() {
		var many int
		for _, node := range someNodes() {
			var want []int64
			for i, m := range n.Flight {
				if m.To == node {
					want = append(want, int64(i))
				}
			}
			equalInts(t, "LettersTo", impl.LettersTo(n, node), want)
			many += len(want)
		}
		wantIs(t, "every message has one addressee", many == len(n.Flight), true)
	}
}

// wantSame fails the test if SameNet does not report want, in both orders.
func wantSame(t *testing.T, a, b impl.Net, want bool) {
	t.Helper()
	if impl.SameNet(a, b) != want || impl.SameNet(b, a) != want {
		t.Errorf("SameNet is not %v: %s and %s", want, netText(a), netText(b))
	}
}

func TestSameNet(t *testing.T) {
	all := append(goodNets(), badNets()...)
	for i, a := range all {
		text := netText(a)
		wantSame(t, a, a, true)
		wantSame(t, a, clonedNet(a), true)
		for _, b := range all[i+1:] {
			wantSame(t, a, b, text == netText(b))
		}
	}
	empty := impl.Net{Flight: []impl.Msg{}, Cuts: []impl.Link{}}
	wantSame(t, empty, impl.Net{}, true)
	wantSame(t, netOf(msgOf(1, 2)), netOf(impl.Msg{From: 1, To: 2, Row: []int64{}}), true)
}

// Networks that differ in one thing, valid or not.
func TestSameNetOfOneDifference(t *testing.T) {
	for _, n := range append(goodNets(), badNets()...) {
		wantSame(t, n, sentByHand(n, msgOf(0, 1, 2)), false)
		wantSame(t, n, cutNet(n, append(slices.Clone(n.Cuts), impl.Link{A: 4, B: 5})...), false)
		for i := range n.Flight {
			if i > 2 && i < len(n.Flight)-1 {
				continue
			}
			wantSame(t, n, removedByHand(n, i), false)
			for _, change := range []func(m *impl.Msg){
				func(m *impl.Msg) { m.From++ },
				func(m *impl.Msg) { m.To++ },
				func(m *impl.Msg) { m.From, m.To = m.To, m.From+9 },
				func(m *impl.Msg) { m.Row = append(m.Row, 0) },
				func(m *impl.Msg) { m.Row = append([]int64{5}, m.Row...) },
			} {
				other := clonedNet(n)
				change(&other.Flight[i])
				wantSame(t, n, other, false)
			}
			for k := range n.Flight[i].Row {
				other := clonedNet(n)
				other.Flight[i].Row[k] ^= 1
				wantSame(t, n, other, false)
			}
		}
		for i := range n.Cuts {
			other := clonedNet(n)
			other.Cuts[i].A ^= 1
			wantSame(t, n, other, false)
			other = clonedNet(n)
			other.Cuts[i].B ^= 1
			wantSame(t, n, other, false)
			wantSame(t, n, cutNet(n, slices.Delete(slices.Clone(n.Cuts), i, i+1)...), false)
		}
	}
}

func TestNetsThatAreNotValid(t *testing.T) {
	for _, n := range badNets() {
		for _, a := range []int64{-1, 0, 1, 4, 5, 6} {
			equalInts(t, "LettersTo of no network", impl.LettersTo(n, a), nil)
			for _, b := range []int64{-1, 0, 1, 4, 5, 6} {
				wantIs(t, "PassesIn of no network", impl.PassesIn(n, a, b), false)
				wantCut(t, n, a, b, impl.Net{}, false)
				wantHealed(t, n, a, b, impl.Net{}, false)
			}
		}
		for _, m := range []impl.Msg{msgOf(4, 0, 1), msgOf(2, 3, 4, 5), msgOf(4, 4, 1), msgOf(4, 0), {}} {
			wantSent(t, n, m, false, impl.Net{})
		}
		for _, at := range append(noMsgs(len(n.Flight)), 0, 1, int64(len(n.Flight))-1) {
			wantHanded(t, n, at, impl.Net{}, impl.Msg{}, false)
			wantLost(t, n, at, impl.Net{}, false)
			wantDoubled(t, n, at, impl.Net{}, false)
		}
	}
}

// Promise 5, for each message by itself: it is delivered as it was sent, to its addressee, unless
// its link is cut when it is delivered; a cut that was healed before does not matter.
func TestMessageIsDeliveredUnlessItsLinkIsCut(t *testing.T) {
	for _, m := range goodMsgs() {
		for _, l := range allLinks() {
			isOver := l == impl.Link{A: min(m.From, m.To), B: max(m.From, m.To)}
			sent, _ := impl.Sent(impl.NewNet(), m)
			cut, _ := impl.CutOff(sent, l.A, l.B)
			// Cutting removes nothing from the network.
			equalInts(t, "LettersTo after the cut", impl.LettersTo(cut, m.To), []int64{0})
			equalNets(t, "after the cut", cut, cutNet(netOf(m), l))
			if isOver {
				wantHanded(t, cut, 0, cutNet(impl.Net{}, l), impl.Msg{}, false)
			} else {
				wantHanded(t, cut, 0, cutNet(impl.Net{}, l), m, true)
			}
			healed, _ := impl.Healed(cut, l.A, l.B)
			wantHanded(t, healed, 0, impl.Net{}, m, true)
			// What was sent while the link was cut is delivered when it is healed.
			cut, _ = impl.CutOff(impl.NewNet(), l.A, l.B)
			late, ok := impl.Sent(cut, m)
			wantIs(t, "Sent over a cut link", ok, true)
			healed, _ = impl.Healed(late, l.A, l.B)
			wantHanded(t, healed, 0, impl.Net{}, m, true)
			// What a cut link has removed does not come back.
			if isOver {
				gone, _, _ := impl.Handed(late, 0)
				back, _ := impl.Healed(gone, l.A, l.B)
				wantHanded(t, back, 0, impl.Net{}, impl.Msg{}, false)
			}
		}
	}
}

// A netModel has every message that was ever put into the network, with whether it is in flight
// still, and whether each pair of nodes is cut.
type netModel struct {
	msgs   []impl.Msg
	flying []bool
	cut    [6][6]bool
}

// put adds a message.
func (m *netModel) put(msg impl.Msg) {
	m.msgs, m.flying = append(m.msgs, clonedMsg(msg)), append(m.flying, true)
}

// numbers returns which messages are in flight.
func (m *netModel) numbers() []int {
	var found []int
	for i, flying := range m.flying {
		if flying {
			found = append(found, i)
		}
	}
	return found
}

// net returns the network that the model stands for.
func (m *netModel) net() impl.Net {
	var n impl.Net
	for _, i := range m.numbers() {
		n.Flight = append(n.Flight, m.msgs[i])
	}
	for _, l := range allLinks() {
		if m.cut[l.A][l.B] {
			n.Cuts = append(n.Cuts, l)
		}
	}
	return n
}

// taken removes the message at an index of the network, if there is one.
func (m *netModel) taken(at int64) (impl.Msg, bool) {
	all := m.numbers()
	if at < 0 || at >= int64(len(all)) {
		return impl.Msg{}, false
	}
	m.flying[all[at]] = false
	return m.msgs[all[at]], true
}

// setCut cuts or heals a link if it is possible.
func (m *netModel) setCut(a, b int64, cut bool) bool {
	if !twoByHand(a, b) || m.cut[a][b] == cut {
		return false
	}
	m.cut[a][b], m.cut[b][a] = cut, cut
	return true
}

// delivered hands one message over in both the network and its model, and fails the test if what
// is delivered was not sent, was delivered before, or came over a link that is cut.
func (m *netModel) delivered(t *testing.T, n impl.Net, at int64) impl.Net {
	t.Helper()
	next, got, is := impl.Handed(n, at)
	want, found := m.taken(at)
	if !found || m.cut[want.From][want.To] {
		wantIs(t, "Handed", is, false)
		equalMsgs(t, "what is not delivered", got, impl.Msg{})
		return next
	}
	wantIs(t, "Handed", is, true)
	equalMsgs(t, "what is delivered", got, want)
	return next
}

// randomMsg returns a message, seldom one that is not valid.
func randomMsg(r *rand.Rand, number int64) impl.Msg {
	m := msgOf(r.Int63n(6), r.Int63n(6), append([]int64{number}, randomRow(r, 5)...)...)
	if r.Intn(10) == 0 {
		m.To = 6
	}
	return m
}

// played makes one random step of both the network and its model.
func (m *netModel) played(t *testing.T, r *rand.Rand, n impl.Net, step int64, sends int) impl.Net {
	t.Helper()
	at := r.Int63n(int64(len(n.Flight))+2) - 1
	a, b := r.Int63n(7)-r.Int63n(2), r.Int63n(7)
	var is, want bool
	switch k := r.Intn(10 + sends); {
	case k < 3:
		return m.delivered(t, n, at)
	case k < 4:
		_, want = m.taken(at)
		n, is = impl.Lost(n, at)
	case k < 6:
		want = at >= 0 && at < int64(len(n.Flight)) && len(n.Flight) < 60
		if want {
			m.put(n.Flight[at])
		}
		n, is = impl.Doubled(n, at)
	case k < 8:
		want = m.setCut(a, b, true)
		n, is = impl.CutOff(n, a, b)
	case k < 10:
		want = m.setCut(a, b, false)
		n, is = impl.Healed(n, a, b)
	default:
		msg, before := randomMsg(r, step), n
		want = twoByHand(msg.From, msg.To) && impl.RowOk(msg.Row) && len(n.Flight) < 60
		if want {
			m.put(msg)
		}
		n, is = impl.Sent(n, msg)
		if !impl.MsgOk(msg) {
			equalNets(t, "Sent no message", n, impl.Net{})
			n = before
		}
	}
	wantIs(t, "a step", is, want)
	return n
}

// Promise 5, in long plays of random operations, each step against the model.
func TestNetAgainstModel(t *testing.T) {
	for seed := range int64(60) {
		r := rand.New(rand.NewSource(seed))
		m, n := &netModel{}, impl.NewNet()
		for step := range int64(300) {
			n = m.played(t, r, n, step, 2+int(seed%3)*6)
			if want := m.net(); netText(n) != netText(want) || !impl.NetOk(n) || !impl.SameNet(n, want) {
				t.Fatalf("seed %d: got %s, want %s", seed, netText(n), netText(want))
			}
		}
		// At last everything is delivered that is in flight and not over a cut link.
		for many := len(n.Flight); many > 0; many-- {
			n = m.delivered(t, n, r.Int63n(int64(many)))
		}
		equalNets(t, "at last", n, cutNet(impl.Net{}, n.Cuts...))
		if t.Failed() {
			t.Fatalf("seed %d", seed)
		}
	}
}

// A netResult has all that a function can return.
type netResult struct {
	net     impl.Net
	msg     impl.Msg
	letters []int64
}

// text writes all that was returned.
func (x netResult) text() string {
	return netText(x.net) + "msg " + msgText(x.msg) + " letters " + textOf(x.letters)
}

// netCalls are all the functions that take a network, the calls that do nothing included.
func netCalls() map[string]func(n impl.Net, m impl.Msg) netResult {
	type call = func(n impl.Net, m impl.Msg) netResult
	moved := func(move func(n impl.Net, at int64) (impl.Net, bool), at int64) call {
		return func(n impl.Net, _ impl.Msg) netResult {
			next, _ := move(n, at)
			return netResult{net: next}
		}
	}
	linked := func(link func(n impl.Net, a, b int64) (impl.Net, bool), a, b int64) call {
		return func(n impl.Net, _ impl.Msg) netResult {
			next, _ := link(n, a, b)
			return netResult{net: next}
		}
	}
	handed := func(at int64) call {
		return func(n impl.Net, _ impl.Msg) netResult {
			next, m, _ := impl.Handed(n, at)
			return netResult{net: next, msg: m}
		}
	}
	return map[string]call{
		"Handed 0": handed(0), "Handed 1": handed(1), "Handed 2": handed(2), "Handed 59": handed(59), "Handed nothing": handed(-1),
		"Lost 0": moved(impl.Lost, 0), "Lost 1": moved(impl.Lost, 1), "Lost 59": moved(impl.Lost, 59), "Lost nothing": moved(impl.Lost, -1),
		"Doubled 0": moved(impl.Doubled, 0), "Doubled 1": moved(impl.Doubled, 1), "Doubled nothing": moved(impl.Doubled, -1),
		"CutOff first": linked(impl.CutOff, 1, 0), "CutOff among": linked(impl.CutOff, 2, 3), "CutOff last": linked(impl.CutOff, 4, 5),
		"CutOff nothing": linked(impl.CutOff, 4, 4), "CutOff no node": linked(impl.CutOff, -1, 6),
		"Healed first": linked(impl.Healed, 0, 1), "Healed among": linked(impl.Healed, 4, 0), "Healed last": linked(impl.Healed, 5, 4),
		"Healed nothing": linked(impl.Healed, 4, 4), "Healed no node": linked(impl.Healed, -1, 6),
		"Sent": func(n impl.Net, m impl.Msg) netResult {
			next, _ := impl.Sent(n, m)
			return netResult{net: next}
		},
		"LettersTo": func(n impl.Net, _ impl.Msg) netResult { return netResult{letters: impl.LettersTo(n, 0)} },
		"MsgOk":     func(_ impl.Net, m impl.Msg) netResult { impl.MsgOk(m); return netResult{} },
		"NetOk":     func(n impl.Net, _ impl.Msg) netResult { impl.NetOk(n); return netResult{} },
		"PassesIn":  func(n impl.Net, _ impl.Msg) netResult { impl.PassesIn(n, 4, 0); return netResult{} },
		"SameNet": func(n impl.Net, m impl.Msg) netResult {
			impl.SameNet(n, netOf(m))
			impl.SameNet(n, n)
			return netResult{}
		},
	}
}

// roomyMsg returns a message whose row has spare capacity that is in use elsewhere.
func roomyMsg(m impl.Msg) impl.Msg {
	row, _ := roomy(m.Row...)
	return impl.Msg{From: m.From, To: m.To, Row: row}
}

// wholeMsg returns the message with the spare capacity of its row.
func wholeMsg(m impl.Msg) impl.Msg {
	return impl.Msg{From: m.From, To: m.To, Row: m.Row[:cap(m.Row)]}
}

// roomyNet returns a network all of whose slices have spare capacity that is in use elsewhere.
func roomyNet(n impl.Net) impl.Net {
	var c impl.Net
	for _, m := range append(slices.Clone(n.Flight), msgOf(91, 92, 93), msgOf(94, 95)) {
		c.Flight = append(c.Flight, roomyMsg(m))
	}
	c.Cuts = append(slices.Clone(n.Cuts), impl.Link{A: 96, B: 97}, impl.Link{A: 98, B: 99})
	c.Flight, c.Cuts = c.Flight[:len(n.Flight)], c.Cuts[:len(n.Cuts)]
	return c
}

// wholeNet returns the network with the spare capacity of all its slices.
func wholeNet(n impl.Net) impl.Net {
	c := impl.Net{Cuts: n.Cuts[:cap(n.Cuts)]}
	for _, m := range n.Flight[:cap(n.Flight)] {
		c.Flight = append(c.Flight, wholeMsg(m))
	}
	return c
}

// wipedNet overwrites all memory of a network.
func wipedNet(n impl.Net) {
	flight, cuts := n.Flight[:cap(n.Flight)], n.Cuts[:cap(n.Cuts)]
	for i := range flight {
		wiped(flight[i].Row)
		flight[i] = msgOf(-9, -9, -9)
	}
	for i := range cuts {
		cuts[i] = impl.Link{A: -9, B: -9}
	}
}

// wipe overwrites all memory of a result.
func (x netResult) wipe() {
	wipedNet(x.net)
	wiped(x.msg.Row)
	wiped(x.letters)
}

// wantNetApart fails the test if two slices of a result share memory, their spare capacity included.
func wantNetApart(t *testing.T, what string, x netResult) {
	t.Helper()
	rows := [][]int64{x.msg.Row, x.letters}
	for _, m := range x.net.Flight {
		rows = append(rows, m.Row)
	}
	wantApart(t, what, diskOf(rows...))
}

// msgsForNets are passed to the calls, one that is not valid among them.
func msgsForNets() []impl.Msg {
	return []impl.Msg{msgOf(4, 0, 7), msgOf(2, 3, repeated(48, 5)...), msgOf(4, 4, 1), msgOf(4, 0), msgOf(0, 4, -1)}
}

func TestNetsChangeNoArgument(t *testing.T) {
	for name, call := range netCalls() {
		for _, n := range append(goodNets(), badNets()...) {
			for _, m := range msgsForNets() {
				net, msg := roomyNet(n), roomyMsg(m)
				before := netText(wholeNet(net)) + msgText(wholeMsg(msg))
				// What the result shares with an argument would be wiped there as well.
				call(net, msg).wipe()
				if after := netText(wholeNet(net)) + msgText(wholeMsg(msg)); after != before {
					t.Fatalf("%s has changed its argument or shares its memory: %s, before %s", name, after, before)
				}
			}
		}
	}
}

func TestNetResultsKeepWhatTheyAre(t *testing.T) {
	for name, call := range netCalls() {
		for _, n := range goodNets() {
			for _, m := range msgsForNets() {
				net, msg := roomyNet(n), roomyMsg(m)
				got, want := call(net, msg), call(clonedNet(n), clonedMsg(m))
				wipedNet(net)
				wiped(msg.Row)
				if got.text() != want.text() {
					t.Fatalf("%s, its arguments wiped: got %s, want %s", name, got.text(), want.text())
				}
			}
		}
	}
}

func TestPartsOfOneNetShareNoMemory(t *testing.T) {
	for name, call := range netCalls() {
		for _, n := range goodNets() {
			for _, m := range msgsForNets() {
				wantNetApart(t, name, call(roomyNet(n), roomyMsg(m)))
			}
		}
		// The rows of an argument may share memory; those of the result do not.
		row := []int64{1, 2, 3, 4}
		shared := netOf(msgOf(4, 0, row...), msgOf(0, 4, row[1:]...), msgOf(2, 0, row[:2]...), msgOf(4, 0, row...))
		for _, n := range []impl.Net{shared, cutNet(shared, allLinks()...)} {
			for i := range n.Flight {
				n.Flight[i].Row = row[i%2:]
			}
			wantNetApart(t, name+" of shared rows", call(n, impl.Msg{From: 4, To: 0, Row: row}))
			equalInts(t, name+", the shared row", row, []int64{1, 2, 3, 4})
		}
	}
}

func TestNewNetsShareNoMemory(t *testing.T) {
	one, other := impl.NewNet(), impl.NewNet()
	wipedNet(one)
	equalNets(t, "NewNet, another one wiped", other, impl.Net{})
	equalNets(t, "NewNet, an earlier one wiped", impl.NewNet(), impl.Net{})
}
