package tests

import (
	"math"
	"math/big"
	"math/rand"
	"slices"
	"testing"

	"loop.example/g00851/impl"
)

const diceModulus = 999999937

// goodSeeds are seeds of valid generators, among them the smallest and the largest one.
func goodSeeds() []int64 {
	seeds := []int64{0, 1, 2, 11, 48271, 48282, 330620559, 500000000, 999999935, 999999936}
	r := rand.New(rand.NewSource(2))
	for range 50 {
		seeds = append(seeds, r.Int63n(diceModulus))
	}
	return seeds
}

// badSeeds are seeds of generators that are not valid, among them one beyond each end.
func badSeeds() []int64 {
	return []int64{-1, -2, -999999936, -999999937, 999999937, 999999938, impl.MaxNum, math.MinInt64, math.MaxInt64}
}

// badBounds are numbers that Under rejects, among them one beyond each end.
func badBounds() []int64 {
	return []int64{0, -1, -10, impl.MaxNum + 1, math.MinInt64, math.MaxInt64}
}

// goodBounds are numbers that Under accepts, among them those at the ends.
func goodBounds() []int64 {
	return []int64{1, 2, 3, 10, 64, 48271, 999999936, 999999937, impl.MaxNum - 1, impl.MaxNum}
}

// rolledByHand is the definition of Rolled in numbers without a limit.
func rolledByHand(seed int64) int64 {
	s := big.NewInt(seed)
	s.Mul(s, big.NewInt(48271))
	s.Add(s, big.NewInt(11))
	return s.Mod(s, big.NewInt(diceModulus)).Int64()
}

// spreadByHand returns the seed afterwards and the numbers modulo n.
func spreadByHand(seed, many, n int64) (int64, []int64) {
	var numbers []int64
	for range many {
		seed = rolledByHand(seed)
		numbers = append(numbers, seed%n)
	}
	return seed, numbers
}

// shuffledByHand builds the permutation from its last element on: the one selected leaves its
// place to the last one of those that remain.
func shuffledByHand(seed int64, list []int64) (int64, []int64) {
	left := slices.Clone(list)
	var backwards []int64
	for len(left) > 1 {
		seed = rolledByHand(seed)
		at, last := seed%int64(len(left)), len(left)-1
		backwards = append(backwards, left[at])
		left[at] = left[last]
		left = left[:last]
	}
	backwards = append(backwards, left...)
	slices.Reverse(backwards)
	return seed, backwards
}

// upTo returns the numbers 0 to many - 1.
func upTo(many int) []int64 {
	list := make([]int64, many)
	for i := range list {
		list[i] = int64(i)
	}
	return list
}

// listsToShuffle have every length that is accepted; the numbers need not form a row.
func listsToShuffle() [][]int64 {
	lists := [][]int64{
		nil, {}, {5}, {-5}, {7, 7}, {10, 20, 30}, {math.MinInt64, math.MaxInt64, -1, impl.MaxNum + 1},
		repeated(64, 3),
	}
	for many := range 65 {
		lists = append(lists, upTo(many))
	}
	return lists
}

// wantDraw fails the test if a generator and its numbers are not those wanted.
func wantDraw(t *testing.T, what string, d impl.Dice, numbers []int64, seed int64, want []int64) {
	t.Helper()
	if d.Seed != seed {
		t.Errorf("%s: got the seed %d, want %d", what, d.Seed, seed)
	}
	equalInts(t, what, numbers, want)
}

func TestDiceOk(t *testing.T) {
	for _, seed := range goodSeeds() {
		if !impl.DiceOk(impl.Dice{Seed: seed}) {
			t.Errorf("%d is a seed", seed)
		}
	}
	for _, seed := range badSeeds() {
		if impl.DiceOk(impl.Dice{Seed: seed}) {
			t.Errorf("%d is not a seed", seed)
		}
	}
}

func TestDiceOf(t *testing.T) {
	for seed, want := range map[int64]int64{
		0: 0, 1: 1, 999999936: 999999936, 999999937: 0, 999999938: 1, impl.MaxNum: 63,
		-1: 999999936, -2: 999999935, -999999936: 1, -999999937: 0, -999999938: 999999936,
		2 * diceModulus: 0, -2 * diceModulus: 0, 2*diceModulus - 1: 999999936, 1 - 2*diceModulus: 1,
	} {
		if got := impl.DiceOf(seed).Seed; got != want {
			t.Errorf("DiceOf(%d): got %d, want %d", seed, got, want)
		}
	}
	for _, seed := range slices.Concat(goodSeeds(), badSeeds()) {
		d := impl.DiceOf(seed)
		want := new(big.Int).Mod(big.NewInt(seed), big.NewInt(diceModulus)).Int64()
		if d.Seed != want || !impl.DiceOk(d) {
			t.Errorf("DiceOf(%d): got %d, want %d", seed, d.Seed, want)
		}
	}
}

func TestRolled(t *testing.T) {
	for seed, want := range map[int64]int64{0: 11, 1: 48282, 48282: 330620559, 999999936: 999951677} {
		d, number := impl.Rolled(impl.Dice{Seed: seed})
		wantDraw(t, "Rolled", d, []int64{number}, want, []int64{want})
	}
	for _, seed := range goodSeeds() {
		d, number := impl.Rolled(impl.Dice{Seed: seed})
		want := rolledByHand(seed)
		wantDraw(t, "Rolled", d, []int64{number}, want, []int64{want})
	}
	for _, seed := range badSeeds() {
		d, number := impl.Rolled(impl.Dice{Seed: seed})
		wantDraw(t, "Rolled of no generator", d, []int64{number}, 0, []int64{0})
	}
}

func TestRolledAgainAndAgain(t *testing.T) {
	d, seed := impl.DiceOf(1), int64(1)
	for range 10000 {
		next, number := impl.Rolled(d)
		seed = rolledByHand(seed)
		if next.Seed != seed || number != seed || !impl.DiceOk(next) {
			t.Fatal(d, next, number, seed)
		}
		d = next
	}
}

func TestUnder(t *testing.T) {
	d, number := impl.Under(impl.Dice{Seed: 1}, 10)
	wantDraw(t, "Under 10", d, []int64{number}, 48282, []int64{2})
	for _, seed := range goodSeeds() {
		for _, n := range goodBounds() {
			d, number := impl.Under(impl.Dice{Seed: seed}, n)
			rolled := rolledByHand(seed)
			wantDraw(t, "Under", d, []int64{number}, rolled, []int64{rolled % n})
		}
		for _, n := range badBounds() {
			d, number := impl.Under(impl.Dice{Seed: seed}, n)
			wantDraw(t, "Under a number out of range", d, []int64{number}, seed, []int64{0})
		}
	}
	for _, seed := range badSeeds() {
		for _, n := range slices.Concat(goodBounds(), badBounds()) {
			d, number := impl.Under(impl.Dice{Seed: seed}, n)
			wantDraw(t, "Under of no generator", d, []int64{number}, 0, []int64{0})
		}
	}
}

func TestSpread(t *testing.T) {
	d, numbers := impl.Spread(impl.Dice{Seed: 1}, 2, 10)
	wantDraw(t, "Spread 2 of 10", d, numbers, 330620559, []int64{2, 9})
	for _, seed := range goodSeeds() {
		for _, n := range goodBounds() {
			for _, many := range []int64{0, 1, 2, 12, 63, 64} {
				d, numbers := impl.Spread(impl.Dice{Seed: seed}, many, n)
				after, want := spreadByHand(seed, many, n)
				wantDraw(t, "Spread", d, numbers, after, want)
			}
		}
	}
}

func TestSpreadOutOfRange(t *testing.T) {
	goodMany := []int64{0, 1, 64}
	badMany := []int64{-1, 65, -64, math.MinInt64, math.MaxInt64}
	for _, seed := range goodSeeds() {
		for _, many := range badMany {
			for _, n := range slices.Concat(goodBounds(), badBounds()) {
				d, numbers := impl.Spread(impl.Dice{Seed: seed}, many, n)
				wantDraw(t, "Spread of too many or too few", d, numbers, seed, nil)
			}
		}
		for _, many := range goodMany {
			for _, n := range badBounds() {
				d, numbers := impl.Spread(impl.Dice{Seed: seed}, many, n)
				wantDraw(t, "Spread of a number out of range", d, numbers, seed, nil)
			}
		}
	}
	for _, seed := range badSeeds() {
		for _, many := range slices.Concat(goodMany, badMany) {
			for _, n := range slices.Concat(goodBounds(), badBounds()) {
				d, numbers := impl.Spread(impl.Dice{Seed: seed}, many, n)
				wantDraw(t, "Spread of no generator", d, numbers, 0, nil)
			}
		}
	}
}

func TestShuffled(t *testing.T) {
	d, mixed := impl.Shuffled(impl.Dice{Seed: 1}, []int64{10, 20, 30})
	wantDraw(t, "Shuffled", d, mixed, 330620559, []int64{30, 20, 10})
	for _, list := range listsToShuffle() {
		for _, seed := range goodSeeds() {
			d, mixed := impl.Shuffled(impl.Dice{Seed: seed}, list)
			after, want := shuffledByHand(seed, list)
			wantDraw(t, "Shuffled", d, mixed, after, want)
			slices.Sort(mixed)
			equalInts(t, "Shuffled, sorted", mixed, slices.Sorted(slices.Values(list)))
		}
		for _, seed := range badSeeds() {
			d, mixed := impl.Shuffled(impl.Dice{Seed: seed}, list)
			wantDraw(t, "Shuffled by no generator", d, mixed, 0, nil)
		}
	}
}

func TestShuffledOfTooMany(t *testing.T) {
	for _, many := range []int{65, 66, 128, 100000} {
		for _, seed := range goodSeeds() {
			d, mixed := impl.Shuffled(impl.Dice{Seed: seed}, upTo(many))
			wantDraw(t, "Shuffled of too many", d, mixed, seed, nil)
		}
		for _, seed := range badSeeds() {
			d, mixed := impl.Shuffled(impl.Dice{Seed: seed}, upTo(many))
			wantDraw(t, "Shuffled of too many by no generator", d, mixed, 0, nil)
		}
	}
}

// Every order of a short list appears, and an element may also stay in its place.
func TestShuffledInEveryOrder(t *testing.T) {
	orders := map[string]bool{}
	d := impl.DiceOf(1)
	for range 1000 {
		var mixed []int64
		d, mixed = impl.Shuffled(d, upTo(4))
		orders[textOf(mixed)] = true
	}
	if len(orders) != 24 {
		t.Errorf("%d orders of 4 numbers, want 24", len(orders))
	}
}

// drawnBy draws numbers in every way, one after the other, and returns all of them with the
// generators in between.
func drawnBy(d impl.Dice) []int64 {
	all := []int64{d.Seed}
	var number int64
	var numbers []int64
	for range 3 {
		d, number = impl.Rolled(d)
		all = append(all, d.Seed, number)
		d, number = impl.Under(d, 100)
		all = append(all, d.Seed, number)
		d, numbers = impl.Spread(d, 9, 1000)
		all = append(append(all, d.Seed), numbers...)
		d, numbers = impl.Shuffled(d, upTo(9))
		all = append(append(all, d.Seed), numbers...)
	}
	return all
}

// Promise 2, also if other generators were used in between, and if the equal ones were made in
// different ways.
func TestEqualGeneratorsProduceEqualNumbers(t *testing.T) {
	first := map[int64][]int64{}
	for _, seed := range goodSeeds() {
		first[seed] = drawnBy(impl.DiceOf(seed))
	}
	for seed, want := range first {
		for _, d := range []impl.Dice{
			{Seed: seed}, impl.DiceOf(seed), impl.DiceOf(seed + diceModulus), impl.DiceOf(seed - diceModulus),
		} {
			equalInts(t, "numbers drawn again", drawnBy(d), want)
		}
	}
}

// What is drawn one by one is what is drawn at once.
func TestSpreadIsUnderManyTimes(t *testing.T) {
	for _, seed := range goodSeeds() {
		d := impl.DiceOf(seed)
		var numbers []int64
		for range 64 {
			var number int64
			d, number = impl.Under(d, 1000)
			numbers = append(numbers, number)
		}
		after, want := impl.Spread(impl.DiceOf(seed), 64, 1000)
		wantDraw(t, "Under 64 times", d, numbers, after.Seed, want)
		half, left := impl.Spread(impl.DiceOf(seed), 30, 1000)
		half, right := impl.Spread(half, 34, 1000)
		wantDraw(t, "Spread in two parts", half, slices.Concat(left, right), after.Seed, want)
	}
}

func TestShuffledChangesNoArgument(t *testing.T) {
	lists := append(listsToShuffle(), upTo(65), upTo(100))
	for _, list := range lists {
		s, whole := roomy(list...)
		for _, seed := range []int64{0, 1, 999999936, -1, 999999937} {
			unchanged(t, "Shuffled", whole, func() {
				_, mixed := impl.Shuffled(impl.Dice{Seed: seed}, s)
				wiped(mixed)
			})
		}
	}
}

func TestDiceShareNoMemory(t *testing.T) {
	for _, list := range listsToShuffle() {
		s, whole := roomy(list...)
		_, mixed := impl.Shuffled(impl.DiceOf(1), s)
		_, again := impl.Shuffled(impl.DiceOf(1), s)
		wiped(whole)
		_, want := shuffledByHand(1, list)
		equalInts(t, "Shuffled, its argument wiped", mixed, want)
		wiped(mixed)
		equalInts(t, "Shuffled, an earlier result wiped", again, want)
	}
	_, numbers := impl.Spread(impl.DiceOf(1), 64, 10)
	_, again := impl.Spread(impl.DiceOf(1), 64, 10)
	wiped(numbers)
	_, want := spreadByHand(1, 64, 10)
	equalInts(t, "Spread, an earlier result wiped", again, want)
}
