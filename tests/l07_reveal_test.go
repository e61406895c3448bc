package tests

import (
	"math"
	"slices"
	"testing"

	"loop.example/g01353/impl"
)

// sampleFlight returns as many different bottles as told.
func sampleFlight(bottles int64) []impl.Bottle {
	var list []impl.Bottle
	for i := range bottles {
		list = append(list, bottle(uint8(20-i), int16(1900+i*i)))
	}
	return list
}

func TestRevealOrder(t *testing.T) {
	next := numberMaker(59)
	for round := range 400 {
		samples := int64(1 + round%impl.MaxSamples)
		numbers, _ := impl.BlindNumbers(samples, []int64{1, 7, 899, 77}[round%4], int64(next(900)))
		bottles := sampleFlight(samples)
		if round%3 == 0 { // bottles may be alike
			bottles[0] = bottles[samples-1]
		}
		var order []int64
		var want []impl.Bottle
		for range round % 101 {
			sample := next(int(samples))
			order, want = append(order, numbers[sample]), append(want, bottles[sample])
		}
		is(t, show(numbers, order), show(want, 0), two(impl.RevealOrder(numbers, order, bottles)))
		if len(order) == 0 {
			continue
		}
		order[next(len(order))] = numbers[0] + 1000
		is(t, "none of the numbers", "[] 6", two(impl.RevealOrder(numbers, order, bottles)))
	}
}

func TestRevealOrderEdges(t *testing.T) {
	a, b, c := bottle(1, 2000), bottle(2, 2000), bottle(3, 1999)
	reveal := func(order ...int64) string {
		return two(impl.RevealOrder([]int64{150, 157, 164}, order, []impl.Bottle{a, b, c}))
	}
	is(t, "no order", "[] 0", reveal())
	is(t, "all", "[{3 1999} {1 2000} {2 2000}] 0", reveal(164, 150, 157))
	is(t, "not all", "[{2 2000}] 0", reveal(157))
	is(t, "several times", "[{2 2000} {1 2000} {2 2000} {2 2000}] 0", reveal(157, 150, 157, 157))
	is(t, "not there", "[] 6 [] 6 [] 6", reveal(151), reveal(157, 150, 151), reveal(0, 157))
	is(t, "samples are no numbers", "[] 6", reveal(0, 1, 2))
	is(t, "100", show(slices.Repeat([]impl.Bottle{c}, 100), 0), reveal(slices.Repeat([]int64{164}, 100)...))
	is(t, "101", "[] 3", reveal(slices.Repeat([]int64{164}, 101)...))
	is(t, "101 is ahead of what is not there", "[] 3", reveal(slices.Repeat([]int64{151}, 101)...))
	is(t, "many", "[] 3", reveal(make([]int64, 900000)...))
	// Any numbers will do, if they are different.
	numbers := []int64{0, -1, math.MinInt64, math.MaxInt64}
	is(t, "other numbers", "[{3 1999} {2 2000} {1 2000} {1 2000}] 0", two(impl.RevealOrder(numbers, []int64{math.MinInt64, -1, math.MaxInt64, 0}, []impl.Bottle{a, b, c, a})))
	is(t, "alike", "[{1 2000} {1 2000}] 0", two(impl.RevealOrder([]int64{5, 6}, []int64{6, 5}, []impl.Bottle{a, a})))
}

func TestRevealOrderErrors(t *testing.T) {
	flight, nine := sampleFlight(8), []int64{1, 2, 3, 4, 5, 6, 7, 8, 9}
	long := make([]int64, 101)
	for _, order := range [][]int64{nil, {1}, {99}, long} {
		reveal := func(numbers []int64, bottles []impl.Bottle) string {
			return two(impl.RevealOrder(numbers, order, bottles))
		}
		is(t, "no numbers", "[] 2 [] 2", reveal(nil, nil), reveal(nil, flight[:1]))
		is(t, "9 numbers", "[] 2 [] 2", reveal(nine, append(slices.Clone(flight), flight[0])), reveal(nine, flight))
		is(t, "fewer bottles", "[] 2 [] 2", reveal(nine[:8], flight[:7]), reveal(nine[:1], nil))
		is(t, "more bottles", "[] 2 [] 2", reveal(nine[:7], flight), reveal(nine[:1], flight[:2]))
		is(t, "the same number", "[] 2 [] 2 [] 2", reveal([]int64{1, 1}, flight[:2]), reveal([]int64{1, 2, 3, 1}, flight[:4]), reveal([]int64{1, 2, 2}, flight[:3]))
		is(t, "many numbers", "[] 2", reveal(make([]int64, 400000), slices.Repeat(flight[:1], 400000)))
		is(t, "many bottles", "[] 2", reveal(nine[:8], slices.Repeat(flight, 100000)))
		for _, wrong := range append(invalidBottles(), impl.Bottle{}) {
			is(t, "invalid", "[] 1 [] 1", reveal(nine[:1], []impl.Bottle{wrong}), reveal(nine[:3], []impl.Bottle{flight[0], flight[1], wrong}))
			is(t, "invalid is ahead of range", "[] 1 [] 1", reveal(nil, []impl.Bottle{wrong}), reveal([]int64{1, 1}, []impl.Bottle{flight[0], wrong}))
			is(t, "invalid, of too many", "[] 1", reveal(nine, append(slices.Repeat(flight[:1], 8), wrong)))
		}
	}
}
