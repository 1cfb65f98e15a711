package tests

import (
	"math"
	"math/rand"
	"slices"
	"strings"
	"testing"

	"loop.example/g00851/impl"
)

// lastTime is the last time, as the document gives it.
const lastTime = 1000000

// isTime reports whether x is a time.
func isTime(x int64) bool { return 0 <= x && x <= lastTime }

// notTimes are numbers that are not times.
func notTimes() []int64 {
	return []int64{-1, lastTime + 1, -lastTime, 2 * lastTime, 1 << 32, 1<<32 + 1, -1 << 32, math.MinInt64, math.MinInt64 + 1, math.MaxInt64, math.MaxInt64 - 1}
}

// someTimes are times and numbers that are not times.
func someTimes() []int64 {
	return append([]int64{0, 1, 2, 7, 8, 9, 10, 500000, lastTime - 9, lastTime - 1, lastTime}, notTimes()...)
}

// goodClocks are valid, among them those with the first and the last time at each place.
func goodClocks() [][]int64 {
	good := [][]int64{{3, 0, 9, 4, 4, 1}, {0, 1, 2, 3, 4, 5}, {5, 4, 3, 2, 1, 0}, repeated(6, 0), repeated(6, 7), repeated(6, lastTime)}
	for node := range 6 {
		for _, base := range []int64{0, 40, lastTime} {
			for _, x := range []int64{0, 1, 50, lastTime - 1, lastTime} {
				clocks := repeated(6, base)
				clocks[node] = x
				good = append(good, clocks)
			}
		}
	}
	return good
}

// badClocks are not valid, for one reason each.
func badClocks() [][]int64 {
	bad := [][]int64{nil, {}, {3, 0, 9, 4, 4}, {3, 0, 9, 4, 4, 1, 0}, {3}, repeated(5, lastTime), repeated(7, lastTime), repeated(12, 1), repeated(1000, 0)}
	for node := range 6 {
		for _, x := range notTimes() {
			for _, base := range []int64{0, 40, lastTime} {
				clocks := repeated(6, base)
				clocks[node] = x
				bad = append(bad, clocks)
			}
		}
	}
	return bad
}

func TestConstantsOfClocks(t *testing.T) {
	equalInts(t, "the limits", []int64{impl.MaxTime, impl.MaxTimers, impl.MaxTimer}, []int64{1000000, 16, 99})
}

func TestTimeOk(t *testing.T) {
	for _, x := range someTimes() {
		wantIs(t, "TimeOk of "+textOf([]int64{x}), impl.TimeOk(x), isTime(x))
	}
	wantIs(t, "TimeOk of -1", impl.TimeOk(-1), false)
	wantIs(t, "TimeOk of 0", impl.TimeOk(0), true)
	wantIs(t, "TimeOk of the last time", impl.TimeOk(1000000), true)
	wantIs(t, "TimeOk beyond the last time", impl.TimeOk(1000001), false)
}

func TestClocksOk(t *testing.T) {
	for _, clocks := range goodClocks() {
		wantIs(t, "ClocksOk of "+textOf(clocks), impl.ClocksOk(clocks), true)
	}
	for _, clocks := range badClocks() {
		wantIs(t, "ClocksOk of "+textOf(clocks), impl.ClocksOk(clocks), false)
	}
	for many := range 20 {
		for _, x := range someTimes() {
			clocks := repeated(many, x)
			wantIs(t, "ClocksOk of "+textOf(clocks), impl.ClocksOk(clocks), many == 6 && isTime(x))
		}
	}
}

// clocksWith returns the clocks with one of them set to x.
func clocksWith(clocks []int64, node int64, x int64) []int64 {
	changed := slices.Clone(clocks)
	changed[node] = x
	return changed
}

// wantTicked fails the test if Ticked does not return the clocks wanted.
func wantTicked(t *testing.T, clocks []int64, node, n int64, want []int64, is bool) {
	t.Helper()
	got, ok := impl.Ticked(clocks, node, n)
	what := "Ticked " + textOf([]int64{node, n}) + " of " + textOf(clocks)
	wantIs(t, what, ok, is)
	equalInts(t, what, got, want)
}

// wantJumped fails the test if Jumped does not return the clocks wanted.
func wantJumped(t *testing.T, clocks []int64, node, to int64, want []int64, is bool) {
	t.Helper()
	got, ok := impl.Jumped(clocks, node, to)
	what := "Jumped " + textOf([]int64{node, to}) + " of " + textOf(clocks)
	wantIs(t, what, ok, is)
	equalInts(t, what, got, want)
}

func TestTickedByHand(t *testing.T) {
	clocks := []int64{3, 0, 9, 4, 4, 1}
	wantTicked(t, clocks, 5, 7, []int64{3, 0, 9, 4, 4, 8}, true)
	wantTicked(t, clocks, 0, 7, []int64{10, 0, 9, 4, 4, 1}, true)
	wantTicked(t, clocks, 2, 0, clocks, true)
	wantTicked(t, clocks, 2, -1, clocks, false)
	wantTicked(t, clocks, -1, 7, clocks, false)
	wantTicked(t, clocks, 6, 7, clocks, false)
	// up to the last time, and one beyond it
	wantTicked(t, clocks, 0, 999997, []int64{1000000, 0, 9, 4, 4, 1}, true)
	wantTicked(t, clocks, 0, 999998, clocks, false)
	wantTicked(t, clocks, 1, 1000000, []int64{3, 1000000, 9, 4, 4, 1}, true)
	wantTicked(t, clocks, 1, 1000001, clocks, false)
	late := []int64{3, 0, 1000000, 4, 4, 999999}
	wantTicked(t, late, 2, 0, late, true)
	wantTicked(t, late, 2, 1, late, false)
	wantTicked(t, late, 5, 1, []int64{3, 0, 1000000, 4, 4, 1000000}, true)
	wantTicked(t, late, 5, 2, late, false)
	// sums that wrap around, or that a negative number would bring back among the times
	wantTicked(t, late, 2, math.MaxInt64, late, false)
	wantTicked(t, late, 2, math.MinInt64, late, false)
	wantTicked(t, late, 2, -1000000, late, false)
	wantTicked(t, late, 2, math.MaxInt64-999999, late, false)
}

func TestTicked(t *testing.T) {
	for _, clocks := range goodClocks() {
		for _, n := range someTimes() {
			for node, x := range clocks {
				if isTime(n) && n <= lastTime-x {
					wantTicked(t, clocks, int64(node), n, clocksWith(clocks, int64(node), x+n), true)
				} else {
					wantTicked(t, clocks, int64(node), n, clocks, false)
				}
			}
			for _, node := range notNodes() {
				wantTicked(t, clocks, node, n, clocks, false)
			}
		}
		for node, x := range clocks {
			wantTicked(t, clocks, int64(node), lastTime-x, clocksWith(clocks, int64(node), lastTime), true)
			wantTicked(t, clocks, int64(node), lastTime-x+1, clocks, false)
		}
	}
}

func TestJumpedByHand(t *testing.T) {
	clocks := []int64{3, 0, 9, 4, 4, 1}
	wantJumped(t, clocks, 2, 0, []int64{3, 0, 0, 4, 4, 1}, true)
	wantJumped(t, clocks, 2, 8, []int64{3, 0, 8, 4, 4, 1}, true)
	wantJumped(t, clocks, 2, 9, clocks, true)
	wantJumped(t, clocks, 2, 10, []int64{3, 0, 10, 4, 4, 1}, true)
	wantJumped(t, clocks, 0, 1000000, []int64{1000000, 0, 9, 4, 4, 1}, true)
	wantJumped(t, clocks, 5, 1000000, []int64{3, 0, 9, 4, 4, 1000000}, true)
	wantJumped(t, clocks, 2, 1000001, clocks, false)
	wantJumped(t, clocks, 2, -1, clocks, false)
	wantJumped(t, clocks, -1, 0, clocks, false)
	wantJumped(t, clocks, 6, 0, clocks, false)
}

func TestJumped(t *testing.T) {
	for _, clocks := range goodClocks() {
		for _, to := range someTimes() {
			for node := range int64(6) {
				if isTime(to) {
					wantJumped(t, clocks, node, to, clocksWith(clocks, node, to), true)
				} else {
					wantJumped(t, clocks, node, to, clocks, false)
				}
			}
			for _, node := range notNodes() {
				wantJumped(t, clocks, node, to, clocks, false)
			}
		}
	}
}

// wantSpan fails the test if the greatest clock, or the distance of the smallest one from it, is
// another one.
func wantSpan(t *testing.T, clocks []int64, latest, apart int64) {
	t.Helper()
	got := []int64{impl.Latest(clocks), impl.ApartIn(clocks)}
	equalInts(t, "Latest and ApartIn of "+textOf(clocks), got, []int64{latest, apart})
}

func TestLatestAndApartIn(t *testing.T) {
	wantSpan(t, []int64{3, 0, 9, 4, 4, 1}, 9, 9)
	wantSpan(t, []int64{3, 2, 9, 4, 4, 5}, 9, 7)
	wantSpan(t, []int64{9, 2, 3, 4, 4, 5}, 9, 7)
	wantSpan(t, []int64{5, 3, 3, 4, 2, 9}, 9, 7)
	wantSpan(t, repeated(6, 7), 7, 0)
	wantSpan(t, repeated(6, 0), 0, 0)
	wantSpan(t, repeated(6, lastTime), lastTime, 0)
	wantSpan(t, []int64{lastTime, 0, 5, 5, 5, 5}, lastTime, lastTime)
	for _, clocks := range goodClocks() {
		sorted := slices.Clone(clocks)
		slices.Sort(sorted)
		wantSpan(t, clocks, sorted[5], sorted[5]-sorted[0])
	}
}

func TestClocksThatAreNotValid(t *testing.T) {
	for _, clocks := range badClocks() {
		wantSpan(t, clocks, 0, 0)
		for _, x := range someTimes() {
			for _, node := range someNodes() {
				wantTicked(t, clocks, node, x, nil, false)
				wantJumped(t, clocks, node, x, nil, false)
			}
		}
	}
}

// Promise 6, first half: in long plays of random operations each clock is what the operations on
// itself have made it.
func TestClockChangesOnlyByOperationsOnItself(t *testing.T) {
	for seed := range int64(40) {
		r := rand.New(rand.NewSource(seed))
		clocks, want := repeated(6, 0), [6]int64{}
		for range 400 {
			node, x := r.Int63n(8)-1, r.Int63n(lastTime/50)-20
			if r.Intn(8) == 0 {
				x = r.Int63n(lastTime+40) - 20
			}
			var is bool
			isNode := 0 <= node && node < 6
			if r.Intn(4) > 0 {
				clocks, is = impl.Ticked(clocks, node, x)
				isNode = isNode && isTime(x) && want[node]+x <= lastTime
				if isNode {
					want[node] += x
				}
			} else {
				clocks, is = impl.Jumped(clocks, node, x)
				isNode = isNode && isTime(x)
				if isNode {
					want[node] = x
				}
			}
			wantIs(t, "an operation", is, isNode)
			equalInts(t, "the clocks", clocks, want[:])
			wantIs(t, "ClocksOk", impl.ClocksOk(clocks), true)
			wantSpan(t, clocks, slices.Max(want[:]), slices.Max(want[:])-slices.Min(want[:]))
		}
		if t.Failed() {
			t.Fatalf("seed %d", seed)
		}
	}
}

// timerOf returns a timer.
func timerOf(id, due int64) impl.Timer { return impl.Timer{Id: id, Due: due} }

// timerText writes timers with all their numbers; nil and empty lists are written alike.
func timerText(l []impl.Timer) string {
	words := make([]string, len(l))
	for i, x := range l {
		words[i] = textOf([]int64{x.Id, x.Due})
	}
	return "[" + strings.Join(words, ", ") + "]"
}

// equalTimers fails the test if got and want differ; nil and empty are equivalent.
func equalTimers(t *testing.T, what string, got, want []impl.Timer) {
	t.Helper()
	if !slices.Equal(got, want) {
		t.Errorf("%s: got %s, want %s", what, timerText(got), timerText(want))
	}
}

// timersOkByHand reports whether the timers are valid, each pair of them looked at.
func timersOkByHand(l []impl.Timer) bool {
	for i, x := range l {
		if x.Id < 0 || x.Id > 99 || !isTime(x.Due) {
			return false
		}
		for _, y := range l[i+1:] {
			if x.Id == y.Id || x.Due > y.Due || x.Due == y.Due && x.Id > y.Id {
				return false
			}
		}
	}
	return len(l) <= 16
}

// sortedByHand sorts timers by Due and then by Id.
func sortedByHand(l []impl.Timer) []impl.Timer {
	l = slices.Clone(l)
	slices.SortFunc(l, func(x, y impl.Timer) int {
		return slices.Compare([]int64{x.Due, x.Id}, []int64{y.Due, y.Id})
	})
	return l
}

// withoutByHand returns the timers but those with that Id.
func withoutByHand(l []impl.Timer, id int64) []impl.Timer {
	return slices.DeleteFunc(slices.Clone(l), func(x impl.Timer) bool { return x.Id == id })
}

// hasTimer reports whether a timer has that Id.
func hasTimer(l []impl.Timer, id int64) bool { return len(withoutByHand(l, id)) < len(l) }

// manyTimers returns as many valid timers: the Ids differ, and every three of them have an equal Due.
func manyTimers(many int64) []impl.Timer {
	var l []impl.Timer
	for i := range many {
		l = append(l, timerOf(i*5%16+10, i/3*10))
	}
	return sortedByHand(l)
}

// goodTimers are valid, among them the empty list, full lists, and equal Dues.
func goodTimers() [][]impl.Timer {
	var equal, last, backwards []impl.Timer
	for i := range int64(16) {
		equal = append(equal, timerOf(i*6, 40))
		last = append(last, timerOf(84+i, lastTime))
		backwards = append(backwards, timerOf(99-i, i))
	}
	good := [][]impl.Timer{
		nil, {}, {timerOf(0, 0)}, {timerOf(99, lastTime)}, {timerOf(99, 0)}, {timerOf(0, lastTime)},
		{timerOf(9, 7), timerOf(2, 20), timerOf(5, 20)}, {timerOf(9, 7), timerOf(2, 8)}, {timerOf(2, 7), timerOf(9, 7)},
		{timerOf(0, 0), timerOf(1, 0), timerOf(99, 0), timerOf(50, 1), timerOf(49, lastTime), timerOf(98, lastTime)},
		equal, equal[:15], last, last[1:], backwards, backwards[3:], manyTimers(14), manyTimers(15), manyTimers(16),
	}
	for many := range int64(6) {
		good = append(good, manyTimers(many))
	}
	return good
}

// notIds are numbers that no timer has as its Id.
func notIds() []int64 {
	return []int64{-1, 100, 101, -99, 1 << 32, 1<<32 + 5, -1 << 32, math.MinInt64, math.MaxInt64}
}

// badTimers are not valid, for one reason each.
func badTimers() [][]impl.Timer {
	good := timerOf(9, 20)
	bad := [][]impl.Timer{
		// an Id twice, with an equal Due and with another one, next to each other and apart
		{good, good}, {timerOf(1, 4), timerOf(1, 5)}, {timerOf(1, 4), timerOf(2, 5), timerOf(1, 6)}, {timerOf(0, 0), timerOf(1, 4), timerOf(2, 5), timerOf(1, lastTime)},
		// out of order by Due and by Id
		{timerOf(1, 5), timerOf(2, 4)}, {timerOf(2, 4), timerOf(1, 4)}, {good, timerOf(8, 20)}, {timerOf(1, 1), timerOf(3, 3), timerOf(2, 2)}, {timerOf(3, 3), timerOf(1, 1), timerOf(2, 2)},
		{timerOf(1, lastTime), timerOf(2, 0)}, {timerOf(1, 1), timerOf(3, 2), timerOf(2, 2)}, {timerOf(1, 1), timerOf(5, 2), timerOf(2, 1)},
		// too many
		append(manyTimers(16), timerOf(5, lastTime)), append([]impl.Timer{timerOf(5, 0)}, manyTimers(16)...),
	}
	var many []impl.Timer
	for i := range int64(100) {
		many = append(many, timerOf(i, i))
	}
	bad = append(bad, many[:17], many[:18], many, slices.Repeat(many, 3))
	for _, id := range notIds() {
		bad = append(bad, []impl.Timer{timerOf(id, 4)}, []impl.Timer{timerOf(id, 4), good}, []impl.Timer{good, timerOf(id, 50)}, []impl.Timer{timerOf(3, 5), timerOf(id, 6), good})
	}
	for _, due := range notTimes() {
		bad = append(bad, []impl.Timer{timerOf(4, due)}, []impl.Timer{timerOf(4, due), good}, []impl.Timer{good, timerOf(4, due)}, []impl.Timer{timerOf(3, 0), timerOf(4, due), timerOf(5, lastTime)})
	}
	return bad
}

func TestTimersOk(t *testing.T) {
	for _, l := range goodTimers() {
		wantIs(t, "TimersOk of "+timerText(l), impl.TimersOk(l), true)
	}
	for _, l := range badTimers() {
		wantIs(t, "TimersOk of "+timerText(l), impl.TimersOk(l), false)
	}
	for many := range int64(40) {
		var l []impl.Timer
		for i := range many {
			l = append(l, timerOf(many-i, i*i))
		}
		wantIs(t, "TimersOk of many timers", impl.TimersOk(l), many <= 16)
	}
	for _, id := range append([]int64{0, 1, 98, 99}, notIds()...) {
		for _, due := range someTimes() {
			l := []impl.Timer{timerOf(id, due)}
			wantIs(t, "TimersOk of "+timerText(l), impl.TimersOk(l), 0 <= id && id <= 99 && isTime(due))
		}
	}
}

// smallTimers returns all lists of as many timers with Ids and Dues from 0 to 2.
func smallTimers(many int) [][]impl.Timer {
	if many == 0 {
		return [][]impl.Timer{nil}
	}
	var all [][]impl.Timer
	for _, l := range smallTimers(many - 1) {
		for k := range int64(9) {
			all = append(all, append(slices.Clone(l), timerOf(k/3, k%3)))
		}
	}
	return all
}

// Every short list is valid only if it is by the definition, and every function does with it what
// is done by hand.
func TestTimersOfEveryShortList(t *testing.T) {
	for many := range 5 {
		for _, l := range smallTimers(many) {
			isOk := timersOkByHand(l)
			wantIs(t, "TimersOk of "+timerText(l), impl.TimersOk(l), isOk)
			for k := range int64(9) {
				wantTimerSet(t, l, k/3, k%3)
			}
			for id := range int64(4) {
				wantTimerOff(t, l, id)
			}
			for now := int64(-1); now < 4; now++ {
				wantDueIn(t, l, now)
			}
			wantNextDue(t, l)
			if t.Failed() {
				return
			}
		}
	}
}

// wantTimers fails the test if a call does not return the timers wanted.
func wantTimers(t *testing.T, what string, got []impl.Timer, ok bool, want []impl.Timer, is bool) {
	t.Helper()
	wantIs(t, what, ok, is)
	equalTimers(t, what, got, want)
}

// wantTimerSet fails the test if TimerSet does not return what the model does.
func wantTimerSet(t *testing.T, l []impl.Timer, id, due int64) {
	t.Helper()
	got, ok := impl.TimerSet(l, id, due)
	what := "TimerSet " + textOf([]int64{id, due}) + " of " + timerText(l)
	if !timersOkByHand(l) {
		wantTimers(t, what, got, ok, nil, false)
		return
	}
	want := sortedByHand(append(withoutByHand(l, id), timerOf(id, due)))
	if 0 <= id && id <= 99 && isTime(due) && len(want) <= 16 {
		wantTimers(t, what, got, ok, want, true)
	} else {
		wantTimers(t, what, got, ok, l, false)
	}
}

// wantTimerOff fails the test if TimerOff does not return what the model does.
func wantTimerOff(t *testing.T, l []impl.Timer, id int64) {
	t.Helper()
	got, ok := impl.TimerOff(l, id)
	what := "TimerOff " + textOf([]int64{id}) + " of " + timerText(l)
	if timersOkByHand(l) {
		wantTimers(t, what, got, ok, withoutByHand(l, id), hasTimer(l, id))
	} else {
		wantTimers(t, what, got, ok, nil, false)
	}
}

// wantDueIn fails the test if DueIn does not return what the model does.
func wantDueIn(t *testing.T, l []impl.Timer, now int64) {
	t.Helper()
	var want []int64
	for _, x := range l {
		if x.Due <= now && timersOkByHand(l) {
			want = append(want, x.Id)
		}
	}
	equalInts(t, "DueIn "+textOf([]int64{now})+" of "+timerText(l), impl.DueIn(l, now), want)
}

// wantNextDue fails the test if NextDue does not return what the model does.
func wantNextDue(t *testing.T, l []impl.Timer) {
	t.Helper()
	due, ok := impl.NextDue(l)
	what, want, is := "NextDue of "+timerText(l), int64(0), timersOkByHand(l) && len(l) > 0
	if is {
		want = slices.MinFunc(l, func(x, y impl.Timer) int { return int(x.Due - y.Due) }).Due
	}
	wantIs(t, what, ok, is)
	equalInts(t, what, []int64{due}, []int64{want})
}

func TestTimersByHand(t *testing.T) {
	l, ok := impl.TimerSet(nil, 5, 20)
	wantTimers(t, "the first timer", l, ok, []impl.Timer{timerOf(5, 20)}, true)
	l, ok = impl.TimerSet(l, 2, 20)
	wantTimers(t, "an equal Due and a smaller Id", l, ok, []impl.Timer{timerOf(2, 20), timerOf(5, 20)}, true)
	l, ok = impl.TimerSet(l, 9, 7)
	wantTimers(t, "an earlier Due and a greater Id", l, ok, []impl.Timer{timerOf(9, 7), timerOf(2, 20), timerOf(5, 20)}, true)
	due, is := impl.NextDue(l)
	wantIs(t, "NextDue", is && due == 7, true)
	for now, want := range map[int64][]int64{
		-1: nil, 0: nil, 6: nil, 7: {9}, 8: {9}, 19: {9}, 20: {9, 2, 5}, 21: {9, 2, 5},
		lastTime: {9, 2, 5}, lastTime + 1: {9, 2, 5}, math.MinInt64: nil, math.MaxInt64: {9, 2, 5},
	} {
		equalInts(t, "DueIn "+textOf([]int64{now}), impl.DueIn(l, now), want)
	}
	// set anew: earlier, equal, later, and to a Due that others have
	for _, c := range []struct {
		id, due int64
		want    []impl.Timer
	}{
		{5, 3, []impl.Timer{timerOf(5, 3), timerOf(9, 7), timerOf(2, 20)}},
		{5, 20, []impl.Timer{timerOf(9, 7), timerOf(2, 20), timerOf(5, 20)}},
		{2, 30, []impl.Timer{timerOf(9, 7), timerOf(5, 20), timerOf(2, 30)}},
		{9, 20, []impl.Timer{timerOf(2, 20), timerOf(5, 20), timerOf(9, 20)}},
		{2, 7, []impl.Timer{timerOf(2, 7), timerOf(9, 7), timerOf(5, 20)}},
		{9, 0, []impl.Timer{timerOf(9, 0), timerOf(2, 20), timerOf(5, 20)}},
		{9, lastTime, []impl.Timer{timerOf(2, 20), timerOf(5, 20), timerOf(9, lastTime)}},
	} {
		got, ok := impl.TimerSet(l, c.id, c.due)
		wantTimers(t, "set anew", got, ok, c.want, true)
	}
	// taken out first, in the middle, last, and not there
	got, ok := impl.TimerOff(l, 9)
	wantTimers(t, "the first one", got, ok, []impl.Timer{timerOf(2, 20), timerOf(5, 20)}, true)
	got, ok = impl.TimerOff(l, 2)
	wantTimers(t, "the middle one", got, ok, []impl.Timer{timerOf(9, 7), timerOf(5, 20)}, true)
	got, ok = impl.TimerOff(l, 5)
	wantTimers(t, "the last one", got, ok, []impl.Timer{timerOf(9, 7), timerOf(2, 20)}, true)
	got, ok = impl.TimerOff(l, 20)
	wantTimers(t, "none", got, ok, l, false)
	got, ok = impl.TimerOff([]impl.Timer{timerOf(5, 20)}, 5)
	wantTimers(t, "the only one", got, ok, nil, true)
	got, ok = impl.TimerOff(nil, 0)
	wantTimers(t, "one of no timers", got, ok, nil, false)
}

func TestTimersThatCannotBeSet(t *testing.T) {
	l := []impl.Timer{timerOf(9, 7), timerOf(2, 20), timerOf(5, 20)}
	for _, x := range []impl.Timer{timerOf(100, 3), timerOf(-1, 3), timerOf(3, -1), timerOf(3, 1000001), timerOf(9, -1), timerOf(9, 1000001), timerOf(2, math.MaxInt64), timerOf(math.MinInt64, 5)} {
		got, ok := impl.TimerSet(l, x.Id, x.Due)
		wantTimers(t, "TimerSet "+timerText([]impl.Timer{x}), got, ok, l, false)
	}
	for _, x := range []impl.Timer{timerOf(0, 3), timerOf(99, 3), timerOf(3, 0), timerOf(3, 1000000)} {
		got, ok := impl.TimerSet(l, x.Id, x.Due)
		wantTimers(t, "TimerSet "+timerText([]impl.Timer{x}), got, ok, sortedByHand(append(slices.Clone(l), x)), true)
	}
}

func TestTimersUntilTooManyAreSet(t *testing.T) {
	var l, want []impl.Timer
	var ok bool
	for i := range int64(16) {
		l, ok = impl.TimerSet(l, i*6, 100-i)
		want = append([]impl.Timer{timerOf(i*6, 100-i)}, want...)
		wantTimers(t, "one more timer", l, ok, want, true)
	}
	for _, due := range []int64{0, 90, 100, lastTime} {
		got, ok := impl.TimerSet(l, 1, due)
		wantTimers(t, "a timer too many", got, ok, l, false)
		// An Id that is there is set anew also when the list is full.
		for _, x := range l {
			got, ok = impl.TimerSet(l, x.Id, due)
			wantTimers(t, "set anew", got, ok, sortedByHand(append(withoutByHand(l, x.Id), timerOf(x.Id, due))), true)
		}
	}
	for _, x := range l {
		less, ok := impl.TimerOff(l, x.Id)
		wantTimers(t, "one of them off", less, ok, withoutByHand(l, x.Id), true)
		less, ok = impl.TimerSet(less, 1, 95)
		wantTimers(t, "another one in its place", less, ok, sortedByHand(append(withoutByHand(l, x.Id), timerOf(1, 95))), true)
	}
}

func TestTimerFunctions(t *testing.T) {
	for _, l := range append(goodTimers(), badTimers()...) {
		ids, dues := append([]int64{0, 1, 2, 9, 98, 99}, notIds()...), someTimes()
		for _, x := range l[:min(len(l), 20)] {
			ids, dues = append(ids, x.Id), append(dues, x.Due)
			if isTime(x.Due) {
				dues = append(dues, x.Due-1, x.Due+1)
			}
		}
		for i, id := range ids {
			wantTimerOff(t, l, id)
			// The first Ids and Dues are taken with each other, the others in turn.
			for k, due := range dues {
				if i < 15 && k < 22 || (i+k)%3 == 0 {
					wantTimerSet(t, l, id, due)
				}
			}
		}
		for _, now := range dues {
			wantDueIn(t, l, now)
		}
		wantNextDue(t, l)
		if t.Failed() {
			return
		}
	}
}

// Promise 6, second half, for each timer by itself: it is not due before its time, due from then
// on, listed once, and not any more when it is taken off.
func TestTimerIsDueWhenItsTimeHasCome(t *testing.T) {
	for _, l := range goodTimers() {
		for _, x := range l {
			for _, now := range append(someTimes(), x.Due-1, x.Due, x.Due+1) {
				many := 0
				for _, id := range impl.DueIn(l, now) {
					if id == x.Id {
						many++
					}
				}
				if want := x.Due <= now; want != (many == 1) || !want && many > 0 {
					t.Errorf("timer %s is due %d times at %d", timerText([]impl.Timer{x}), many, now)
				}
				less, _ := impl.TimerOff(l, x.Id)
				wantIs(t, "due after it was taken off", slices.Contains(impl.DueIn(less, now), x.Id), false)
			}
			// Set anew, it is due at its new time and not at the old one.
			late, ok := impl.TimerSet(l, x.Id, lastTime)
			wantIs(t, "set anew", ok, true)
			wantIs(t, "due before its new time", slices.Contains(impl.DueIn(late, lastTime-1), x.Id), false)
			wantIs(t, "due at its new time", slices.Contains(impl.DueIn(late, lastTime), x.Id), true)
		}
	}
}

// firedBy takes the timers that are due off, and fails the test if the model has other ones, or if
// they are not in order.
func firedBy(t *testing.T, l []impl.Timer, dues map[int64]int64, now int64) []impl.Timer {
	t.Helper()
	var want []impl.Timer
	for id, due := range dues {
		if due <= now {
			want = append(want, timerOf(id, due))
		}
	}
	want = sortedByHand(want)
	due := impl.DueIn(l, now)
	wantIs(t, "as many timers are due", len(due) == len(want), true)
	for i, id := range due {
		wantIs(t, "the timer that is due", i < len(want) && want[i].Id == id, true)
		var ok bool
		l, ok = impl.TimerOff(l, id)
		wantIs(t, "TimerOff of a timer that is due", ok, true)
		delete(dues, id)
	}
	equalInts(t, "what is due after that", impl.DueIn(l, now), nil)
	return l
}

// Promise 6, second half, in long plays: a clock ticks and jumps, timers are set, set anew and
// taken off, and each of them fires once, at the first reading that is not before its Due.
func TestTimersAgainstModel(t *testing.T) {
	for seed := range int64(60) {
		r := rand.New(rand.NewSource(seed))
		var l []impl.Timer
		dues, clocks := map[int64]int64{}, repeated(6, 0)
		ids := []int64{20, 101, 17}[seed%3]
		for range 300 {
			id, due := r.Int63n(ids), clocks[3]+r.Int63n(60)-2
			_, has := dues[id]
			var is, want bool
			switch k := r.Intn(12); {
			case k < 7:
				want = id <= 99 && isTime(due) && (has || len(dues) < 16)
				l, is = impl.TimerSet(l, id, due)
				if want {
					dues[id] = due
				}
			case k < 9:
				want = has
				l, is = impl.TimerOff(l, id)
				delete(dues, id)
			case k < 11:
				clocks, _ = impl.Ticked(clocks, 3, r.Int63n(9))
				l = firedBy(t, l, dues, clocks[3])
			default:
				clocks, _ = impl.Jumped(clocks, 3, max(0, clocks[3]-r.Int63n(30)))
				l = firedBy(t, l, dues, clocks[3])
			}
			wantIs(t, "an operation", is, want)
			wantIs(t, "TimersOk", impl.TimersOk(l), true)
			var all []impl.Timer
			for id, due := range dues {
				all = append(all, timerOf(id, due))
			}
			equalTimers(t, "the timers", l, sortedByHand(all))
			wantNextDue(t, sortedByHand(all))
		}
		equalTimers(t, "at last", firedBy(t, l, dues, lastTime), nil)
		if t.Failed() || len(dues) != 0 {
			t.Fatalf("seed %d", seed)
		}
	}
}

// roomyTimers returns timers with spare capacity that is in use elsewhere, and the whole array.
func roomyTimers(l []impl.Timer) ([]impl.Timer, []impl.Timer) {
	whole := append(slices.Clone(l), timerOf(91, 92), timerOf(93, 94), timerOf(95, 96))
	return whole[:len(l)], whole
}

// wipedTimers overwrites timers and their spare capacity.
func wipedTimers(l []impl.Timer) {
	l = l[:cap(l)]
	for i := range l {
		l[i] = timerOf(-9, -9)
	}
}

// clockCalls are all the functions that take clocks, the calls that do nothing included.
func clockCalls() map[string]func(clocks []int64) []int64 {
	type call = func(clocks []int64) []int64
	changed := func(change func(clocks []int64, node, x int64) ([]int64, bool), node, x int64) call {
		return func(clocks []int64) []int64 {
			next, _ := change(clocks, node, x)
			return next
		}
	}
	return map[string]call{
		"Ticked first": changed(impl.Ticked, 0, 1), "Ticked last": changed(impl.Ticked, 5, 2), "Ticked by 0": changed(impl.Ticked, 3, 0),
		"Ticked no node": changed(impl.Ticked, 6, 1), "Ticked no time": changed(impl.Ticked, 3, -1), "Ticked beyond": changed(impl.Ticked, 3, lastTime),
		"Jumped first": changed(impl.Jumped, 0, 1), "Jumped last": changed(impl.Jumped, 5, lastTime), "Jumped to 0": changed(impl.Jumped, 3, 0),
		"Jumped no node": changed(impl.Jumped, -1, 1), "Jumped no time": changed(impl.Jumped, 3, lastTime+1),
		"ClocksOk": func(clocks []int64) []int64 { impl.ClocksOk(clocks); return nil },
		"Latest":   func(clocks []int64) []int64 { impl.Latest(clocks); return nil },
		"ApartIn":  func(clocks []int64) []int64 { impl.ApartIn(clocks); return nil },
	}
}

func TestClocksChangeNoArgument(t *testing.T) {
	for name, call := range clockCalls() {
		for _, clocks := range append(goodClocks(), badClocks()...) {
			s, whole := roomy(clocks...)
			// What the result shares with the argument would be wiped there as well.
			unchanged(t, name, whole, func() { wiped(call(s)) })
			got, want := call(s), call(slices.Clone(clocks))
			wiped(whole)
			equalInts(t, name+", its argument wiped", got, want)
		}
	}
}

// timerCalls are all the functions that take timers, the calls that do nothing included.
func timerCalls() map[string]func(l []impl.Timer) []impl.Timer {
	type call = func(l []impl.Timer) []impl.Timer
	set := func(id, due int64) call {
		return func(l []impl.Timer) []impl.Timer {
			next, _ := impl.TimerSet(l, id, due)
			return next
		}
	}
	off := func(id int64) call {
		return func(l []impl.Timer) []impl.Timer {
			next, _ := impl.TimerOff(l, id)
			return next
		}
	}
	return map[string]call{
		"TimerSet first": set(1, 0), "TimerSet among": set(3, 20), "TimerSet last": set(7, lastTime), "TimerSet anew": set(9, 500), "TimerSet as it was": set(9, 7),
		"TimerSet nothing": set(100, 3), "TimerSet no time": set(3, -1), "TimerSet anew to no time": set(9, lastTime+1),
		"TimerOff 9": off(9), "TimerOff 2": off(2), "TimerOff 5": off(5), "TimerOff 10": off(10), "TimerOff nothing": off(-1),
		"TimersOk": func(l []impl.Timer) []impl.Timer { impl.TimersOk(l); return nil },
		"NextDue":  func(l []impl.Timer) []impl.Timer { impl.NextDue(l); return nil },
		"DueIn": func(l []impl.Timer) []impl.Timer {
			var found []impl.Timer
			for _, id := range impl.DueIn(l, 20) {
				found = append(found, timerOf(id, 0))
			}
			return found
		},
	}
}

func TestTimersChangeNoArgument(t *testing.T) {
	for name, call := range timerCalls() {
		for _, l := range append(goodTimers(), badTimers()...) {
			s, whole := roomyTimers(l)
			before := slices.Clone(whole)
			// What the result shares with the argument would be wiped there as well.
			wipedTimers(call(s))
			equalTimers(t, name+" has changed its argument or shares its memory", whole, before)
			got, want := call(s), call(slices.Clone(l))
			wipedTimers(whole)
			equalTimers(t, name+", its argument wiped", got, want)
		}
	}
}

func TestResultsOfClocksAreNew(t *testing.T) {
	clocks, l := []int64{3, 0, 9, 4, 4, 1}, []impl.Timer{timerOf(9, 7), timerOf(2, 20), timerOf(5, 20)}
	for name, call := range clockCalls() {
		one, other := call(clocks), call(clocks)
		want := slices.Clone(other)
		wiped(one)
		equalInts(t, name+", an earlier result wiped", other, want)
		equalInts(t, name+" again", call(clocks), want)
	}
	for name, call := range timerCalls() {
		one, other := call(l), call(l)
		want := slices.Clone(other)
		wipedTimers(one)
		equalTimers(t, name+", an earlier result wiped", other, want)
		equalTimers(t, name+" again", call(l), want)
	}
	ids := impl.DueIn(l, 20)
	wiped(ids)
	equalInts(t, "DueIn again", impl.DueIn(l, 20), []int64{9, 2, 5})
}
