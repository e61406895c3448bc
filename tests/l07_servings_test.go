package tests

import (
	"math"
	"slices"
	"testing"

	"loop.example/g01353/impl"
)

func TestTastingExample(t *testing.T) {
	m := tastingExample().m
	is(t, "FollowOrders", "[[0 1 3 2] [1 2 0 3] [2 3 1 0] [3 0 2 1]] 0", two(impl.FollowOrders(4)))
	is(t, "PairsFor", "[[0 1 1] [1 0 1] [1 0 0]] 0", two(impl.PairsFor(3, m)))
	is(t, "RanksOf", "[[2 5 5] [6 2 4]] 0", two(impl.RanksOf(3, m)))
	is(t, "RankSums", "[8 7 9] 0", two(impl.RankSums(3, m)))
	is(t, "SumOrder", "[1 0 2] 0", two(impl.SumOrder(3, m)))
	is(t, "BestOrder", "[0 1 2] 3 0", three(impl.BestOrder(3, m)))
	is(t, "WinnerOf", "0 6", two(impl.WinnerOf(3, m)))
	is(t, "BlindNumbers", "[150 157 164] 0", two(impl.BlindNumbers(3, 7, 50)))
}

func TestTastingLimits(t *testing.T) {
	is(t, "limits", "8 12 20", impl.MaxSamples, impl.MaxTasters, impl.MaxMark)
}

// blindsIn counts on step by step.
func blindsIn(samples, step, first int64) []int64 {
	var numbers []int64
	next := first
	for range samples {
		numbers = append(numbers, 100+next)
		for next += step; next >= 900; {
			next -= 900
		}
	}
	return numbers
}

func TestBlindNumbers(t *testing.T) {
	for step := int64(1); step < 900; step++ {
		samples := 1 + step%8
		for _, first := range []int64{0, 1, step, 899 - step%50, 899} {
			if step%2 == 0 || step%3 == 0 || step%5 == 0 {
				is(t, "common divisor", "[] 4", two(impl.BlindNumbers(samples, step, first)))
				continue
			}
			numbers, code := impl.BlindNumbers(samples, step, first)
			is(t, show(samples, step, first), show(blindsIn(samples, step, first), 0), numbers, code)
			slices.Sort(numbers)
			is(t, "different", show(samples), len(slices.Compact(numbers)))
			if numbers[0] < 100 || numbers[samples-1] > 999 {
				t.Errorf("%v have not three digits", numbers)
			}
		}
	}
}

func TestBlindNumbersEdges(t *testing.T) {
	is(t, "one sample", "[100] 0 [999] 0 [937] 0", two(impl.BlindNumbers(1, 1, 0)), two(impl.BlindNumbers(1, 899, 899)), two(impl.BlindNumbers(1, 7, 837)))
	is(t, "the step 1", "[100 101 102 103 104 105 106 107] 0", two(impl.BlindNumbers(8, 1, 0)))
	is(t, "begins again", "[998 999 100 101] 0", two(impl.BlindNumbers(4, 1, 898)))
	is(t, "the step 899", "[101 100 999 998] 0", two(impl.BlindNumbers(4, 899, 1)))
	is(t, "the greatest numbers", "[999 998 997 996 995 994 993 992] 0", two(impl.BlindNumbers(8, 899, 899)))
	for _, step := range []int64{2, 3, 4, 5, 6, 10, 14, 21, 25, 35, 300, 450, 600, 894, 895, 896, 897, 898} {
		is(t, show("common divisor", step), "[] 4 [] 4", two(impl.BlindNumbers(1, step, 0)), two(impl.BlindNumbers(8, step, 899)))
	}
	for _, wrong := range []int64{0, -1, -7, 900, 901, 907, math.MinInt64, math.MaxInt64} {
		is(t, show("step", wrong), "[] 2 [] 2", two(impl.BlindNumbers(3, wrong, 0)), two(impl.BlindNumbers(3, wrong, 899)))
		is(t, "step, and samples", "[] 2", two(impl.BlindNumbers(0, wrong, 0)))
	}
	for _, wrong := range []int64{-1, -900, 900, 901, 1800, math.MinInt64, math.MaxInt64} {
		is(t, show("first", wrong), "[] 2", two(impl.BlindNumbers(3, 7, wrong)))
		is(t, "range is ahead of state", "[] 2", two(impl.BlindNumbers(3, 6, wrong)))
	}
	for _, samples := range noSamples() {
		is(t, show("samples", samples), "[] 2", two(impl.BlindNumbers(samples, 7, 0)))
		is(t, "samples, ahead of state", "[] 2", two(impl.BlindNumbers(samples, 6, 0)))
	}
}

func TestIsOrder(t *testing.T) {
	for samples := int64(1); samples <= 5; samples++ {
		known := map[string]bool{}
		for _, list := range allServings(samples) {
			known[show(list)] = true
			is(t, show(list), "true", impl.IsOrder(samples, list))
			is(t, "for one less, and one more", "false false", impl.IsOrder(samples-1, list), impl.IsOrder(samples+1, list))
		}
		lists := 1
		for range samples {
			lists *= int(samples) + 2
		}
		// All lists of as many numbers from -1 to samples.
		for number := range lists {
			var list []int64
			for range samples {
				list = append(list, int64(number)%(samples+2)-1)
				number /= int(samples) + 2
			}
			if impl.IsOrder(samples, list) != known[show(list)] {
				t.Errorf("%v is told wrongly", list)
			}
		}
	}
	for samples := int64(1); samples <= impl.MaxSamples; samples++ {
		is(t, "rising", "true", impl.IsOrder(samples, risingTo(samples)))
		for _, list := range noServings(samples) {
			if impl.IsOrder(samples, list) {
				t.Errorf("%d samples have the order %.60s", samples, show(list))
			}
		}
	}
	for _, samples := range noSamples() {
		is(t, show("samples", samples), "false false false", impl.IsOrder(samples, nil), impl.IsOrder(samples, []int64{0}), impl.IsOrder(samples, risingTo(9)))
	}
}

// followIn counts how often b comes right behind a.
func followIn(orders [][]int64, a, b int64) int64 {
	var times int64
	for _, list := range orders {
		if place := slices.Index(list, a); place+1 < len(list) && list[place+1] == b {
			times++
		}
	}
	return times
}

// P17: each sample follows each other one equally often.
func TestFollowOrders(t *testing.T) {
	for samples := int64(1); samples <= impl.MaxSamples; samples++ {
		orders, code := impl.FollowOrders(samples)
		number, times := samples, int64(1)
		if samples%2 == 1 && samples > 1 {
			number, times = 2*samples, 2
		}
		is(t, "number", show(number, 0), len(orders), code)
		for a := range samples {
			for b := range samples {
				if a != b && followIn(orders, a, b) != times {
					t.Errorf("%d samples: %d follows %d %d times, not %d", samples, b, a, followIn(orders, a, b), times)
				}
			}
		}
		for _, list := range orders {
			is(t, show(list), "true", impl.IsOrder(samples, list))
		}
		is(t, "balanced", "true 0", two(impl.IsBalanced(samples, orders)))
		is(t, "without the last one", show(samples == 1, 0), two(impl.IsBalanced(samples, orders[1:])))
		// Each sample is as often in each place.
		for place := range samples {
			places := make([]int64, samples)
			for _, list := range orders {
				places[list[place]]++
			}
			is(t, "places", show(slices.Repeat([]int64{number / samples}, int(samples))), places)
		}
	}
}

func TestFollowOrdersEdges(t *testing.T) {
	is(t, "1", "[[0]] 0", two(impl.FollowOrders(1)))
	is(t, "2", "[[0 1] [1 0]] 0", two(impl.FollowOrders(2)))
	is(t, "3", "[[0 1 2] [1 2 0] [2 0 1] [2 1 0] [0 2 1] [1 0 2]] 0", two(impl.FollowOrders(3)))
	is(t, "5", "[[0 1 4 2 3] [1 2 0 3 4] [2 3 1 4 0] [3 4 2 0 1] [4 0 3 1 2] [3 2 4 1 0] [4 3 0 2 1] [0 4 1 3 2] [1 0 2 4 3] [2 1 3 0 4]] 0", two(impl.FollowOrders(5)))
	is(t, "6", "[[0 1 5 2 4 3] [1 2 0 3 5 4] [2 3 1 4 0 5] [3 4 2 5 1 0] [4 5 3 0 2 1] [5 0 4 1 3 2]] 0", two(impl.FollowOrders(6)))
	seven, _ := impl.FollowOrders(7)
	is(t, "7", "14 [0 1 6 2 5 3 4] [6 0 5 1 4 2 3] [4 3 5 2 6 1 0] [3 2 4 1 5 0 6]", len(seven), seven[0], seven[6], seven[7], seven[13])
	eight, _ := impl.FollowOrders(8)
	is(t, "8", "8 [0 1 7 2 6 3 5 4] [7 0 6 1 5 2 4 3]", len(eight), eight[0], eight[7])
	for _, samples := range noSamples() {
		is(t, show("samples", samples), "[] 2", two(impl.FollowOrders(samples)))
	}
}

// sampleServings returns orders of as many samples as told, 0 to 100 of them.
func sampleServings(next func(below int) int, samples int64, number int) [][]int64 {
	var orders [][]int64
	for range number {
		orders = append(orders, randomServing(next, samples))
	}
	return orders
}

func TestFollowsOf(t *testing.T) {
	next := numberMaker(3)
	for round := range 300 {
		samples := int64(1 + round%impl.MaxSamples)
		orders := sampleServings(next, samples, round%101)
		balanced := true
		table := make([][]int64, samples)
		for a := range samples {
			for b := range samples {
				table[a] = append(table[a], followIn(orders, a, b))
				balanced = balanced && (a == b || table[a][b] == followIn(orders, samples-1, 0))
			}
		}
		is(t, "follows", show(table, 0), two(impl.FollowsOf(samples, orders)))
		is(t, "balanced", show(balanced, 0), two(impl.IsBalanced(samples, orders)))
		made, _ := impl.FollowOrders(samples)
		if len(orders)+len(made) <= 100 {
			is(t, "with such as are balanced", show(balanced, 0), two(impl.IsBalanced(samples, slices.Concat(made, orders))))
		}
	}
}

func TestFollowsOfEdges(t *testing.T) {
	both := func(samples int64, orders ...[]int64) string {
		return two(impl.FollowsOf(samples, orders)) + " " + two(impl.IsBalanced(samples, orders))
	}
	is(t, "no orders of one", "[[0]] 0 true 0", both(1))
	is(t, "no orders", "[[0 0 0] [0 0 0] [0 0 0]] 0 true 0", both(3))
	is(t, "one of one", "[[0]] 0 true 0", both(1, []int64{0}))
	is(t, "several of one", "[[0]] 0 true 0", both(1, []int64{0}, []int64{0}, []int64{0}))
	is(t, "one of two", "[[0 1] [0 0]] 0 false 0", both(2, []int64{0, 1}))
	is(t, "two of two", "[[0 1] [1 0]] 0 true 0", both(2, []int64{1, 0}, []int64{0, 1}))
	is(t, "right behind only", "[[0 0 1] [0 0 0] [0 1 0]] 0 false 0", both(3, []int64{0, 2, 1}))
	is(t, "an order comes twice", "[[0 0 2] [0 0 0] [0 2 0]] 0 false 0", both(3, []int64{0, 2, 1}, []int64{0, 2, 1}))
	forward := [][]int64{{0, 1, 2}, {1, 2, 0}, {2, 0, 1}}
	is(t, "not backward", "[[0 2 0] [0 0 2] [2 0 0]] 0 false 0", both(3, forward...))
	// The last number of all alone is another one.
	odd := [][]int64{{0, 1, 2}, {1, 0, 2}, {0, 2, 1}, {2, 0, 1}, {1, 2, 0}}
	is(t, "one lacks", "[[0 2 2] [1 0 2] [2 1 0]] 0 false 0", both(3, odd...))
	is(t, "100", "[[0 100] [0 0]] 0 false 0", both(2, slices.Repeat([][]int64{{0, 1}}, 100)...))
	is(t, "100 in balance", "[[0 50] [50 0]] 0 true 0", both(2, slices.Repeat([][]int64{{0, 1}, {1, 0}}, 50)...))
}

func TestFollowsOfErrors(t *testing.T) {
	both := func(samples int64, orders ...[]int64) string {
		return two(impl.FollowsOf(samples, orders)) + " " + two(impl.IsBalanced(samples, orders))
	}
	for samples := int64(1); samples <= impl.MaxSamples; samples++ {
		fine := risingTo(samples)
		for _, list := range noServings(samples) {
			is(t, "state", "[] 4 false 4", both(samples, list))
			is(t, "state behind", "[] 4 false 4", both(samples, fine, list))
			is(t, "state ahead", "[] 4 false 4", both(samples, list, fine))
		}
		many := slices.Repeat([][]int64{fine}, 101)
		is(t, "limit", "[] 3 false 3", both(samples, many...))
		many[100] = fine[1:]
		is(t, "state is ahead of limit", "[] 4 false 4", both(samples, many...))
		is(t, "many", "[] 3 false 3", both(samples, slices.Repeat([][]int64{fine}, 900000/int(samples+1))...))
		is(t, "many that are none", "[] 4 false 4", both(samples, make([][]int64, 900000)...))
	}
	for _, samples := range noSamples() {
		is(t, show("samples", samples), "[] 2 false 2", both(samples))
		is(t, "range is ahead of state", "[] 2 false 2", both(samples, []int64{0}, []int64{7, 7}))
		is(t, "range is ahead of limit", "[] 2 false 2", both(samples, make([][]int64, 101)...))
		is(t, "9 are too many", "[] 2 false 2", both(samples, risingTo(9)))
	}
}

// discordIn looks at the places of all samples in both orders.
func discordIn(a, b []int64) int64 {
	var discord int64
	for x := range int64(len(a)) {
		for y := range x {
			if (slices.Index(a, x) < slices.Index(a, y)) != (slices.Index(b, x) < slices.Index(b, y)) {
				discord++
			}
		}
	}
	return discord
}

func TestDiscordOf(t *testing.T) {
	next := numberMaker(41)
	for samples := int64(1); samples <= 4; samples++ {
		for _, a := range allServings(samples) {
			for _, b := range allServings(samples) {
				is(t, show(a, b), show(discordIn(a, b), 0), two(impl.DiscordOf(samples, a, b)))
			}
		}
	}
	for round := range 400 {
		samples := int64(5 + round%4)
		a, b := randomServing(next, samples), randomServing(next, samples)
		is(t, show(a, b), show(discordIn(a, b), 0), two(impl.DiscordOf(samples, a, b)))
		is(t, "the other way round", show(discordIn(a, b), 0), two(impl.DiscordOf(samples, b, a)))
		is(t, "the same", "0 0", two(impl.DiscordOf(samples, a, a)))
		is(t, "backward", show(samples*(samples-1)/2-discordIn(a, b), 0), two(impl.DiscordOf(samples, a, reversed(b))))
	}
}

func reversed(list []int64) []int64 {
	other := slices.Clone(list)
	slices.Reverse(other)
	return other
}

func TestDiscordOfEdges(t *testing.T) {
	is(t, "one sample", "0 0", two(impl.DiscordOf(1, []int64{0}, []int64{0})))
	is(t, "two", "0 0 1 0", two(impl.DiscordOf(2, []int64{1, 0}, []int64{1, 0})), two(impl.DiscordOf(2, []int64{0, 1}, []int64{1, 0})))
	is(t, "neighbours", "1 0", two(impl.DiscordOf(4, []int64{3, 1, 0, 2}, []int64{3, 0, 1, 2})))
	is(t, "the last one first", "3 0", two(impl.DiscordOf(4, []int64{0, 1, 2, 3}, []int64{3, 0, 1, 2})))
	is(t, "all of eight", "28 0", two(impl.DiscordOf(8, risingTo(8), reversed(risingTo(8)))))
	for samples := int64(1); samples <= impl.MaxSamples; samples++ {
		fine := risingTo(samples)
		for _, list := range noServings(samples) {
			is(t, "state", "0 4 0 4 0 4", two(impl.DiscordOf(samples, list, fine)), two(impl.DiscordOf(samples, fine, list)), two(impl.DiscordOf(samples, list, list)))
		}
	}
	for _, samples := range noSamples() {
		is(t, show("range", samples), "0 2 0 2 0 2", two(impl.DiscordOf(samples, nil, nil)), two(impl.DiscordOf(samples, []int64{0}, []int64{0})), two(impl.DiscordOf(samples, risingTo(9), risingTo(9))))
		is(t, "range is ahead of state", "0 2", two(impl.DiscordOf(samples, []int64{5}, []int64{0, 0})))
	}
}
