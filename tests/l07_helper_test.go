package tests

import (
	"math"
	"slices"

	"loop.example/g01353/impl"
)

// tasting is the marks that samples get.
type tasting struct {
	samples int64
	m       impl.Marks
}

// tastingExample returns the marks of the chapter's example.
func tastingExample() tasting { return tasting{3, impl.Marks{{9, 5, 5}, {3, 7, 5}}} }

// ringMarks returns marks of three tasters, each of whom has another favourite:
// more of them prefer 0 to 1, 1 to 2, and 2 to 0.
func ringMarks() impl.Marks { return impl.Marks{{3, 2, 1}, {1, 3, 2}, {2, 1, 3}} }

// sampleTastings returns marks for all numbers of samples of 0 to MaxTasters
// tasters: many that are equal, and few, and such with equal sums of ranks.
func sampleTastings() []tasting {
	next := numberMaker(31)
	all := limitTastings()
	for round := range 416 {
		one := tasting{samples: int64(1 + round%impl.MaxSamples)}
		most := []int{1, 2, 4, impl.MaxMark}[round/impl.MaxSamples%4]
		for range round * 5 % (impl.MaxTasters + 1) {
			one.m = append(one.m, randomMarks(next, one.samples, most))
		}
		for i := 1; i < len(one.m) && round%6 == 0; i += 2 {
			// Each other taster gives the same marks to the samples backward.
			one.m[i] = slices.Clone(one.m[i-1])
			slices.Reverse(one.m[i])
		}
		all = append(all, one)
	}
	return all
}

func randomMarks(next func(below int) int, samples int64, most int) []int64 {
	var marks []int64
	for range samples {
		marks = append(marks, int64(next(most+1)))
	}
	return marks
}

// limitTastings returns marks whose numbers are on their limits.
func limitTastings() []tasting {
	all := []tasting{tastingExample(), {3, ringMarks()}, {3, impl.Marks{{0, 20, 0}}}, {2, impl.Marks{{0, 20}, {20, 0}}}}
	for samples := range int64(impl.MaxSamples) {
		none, most := make([]int64, samples+1), slices.Repeat([]int64{impl.MaxMark}, int(samples+1))
		all = append(all, tasting{samples + 1, nil}, tasting{samples + 1, impl.Marks{none}}, tasting{samples + 1, impl.Marks{none, most}})
		all = append(all, tasting{samples + 1, slices.Repeat(impl.Marks{most}, impl.MaxTasters)})
		rising := make([]int64, samples+1)
		for i := range rising {
			rising[i] = int64(i)
		}
		all = append(all, tasting{samples + 1, slices.Repeat(impl.Marks{rising}, impl.MaxTasters)})
	}
	return all
}

// noSamples returns numbers of samples that are none.
func noSamples() []int64 {
	return []int64{0, -1, 9, 63, 64, 1 << 40, math.MinInt64, math.MaxInt64}
}

// invalidTastings returns marks that are not valid for their samples.
func invalidTastings() []tasting {
	fine := []int64{4, 0, 20}
	var all []tasting
	for _, samples := range noSamples() {
		all = append(all, tasting{samples, nil}, tasting{samples, impl.Marks{{}}}, tasting{samples, impl.Marks{fine}}, tasting{samples, make(impl.Marks, 13)})
	}
	all = append(all, tasting{9, impl.Marks{make([]int64, 9)}}, tasting{0, make(impl.Marks, 12)}, tasting{1, impl.Marks{nil}}, tasting{8, impl.Marks{make([]int64, 9)}})
	wrong := [][]int64{nil, {4}, {4, 0}, {4, 0, 20, 0}, make([]int64, 900000)}
	for _, mark := range []int64{-1, 21, math.MinInt64, math.MaxInt64} {
		wrong = append(wrong, []int64{mark, 0, 20}, []int64{4, mark, 20}, []int64{4, 0, mark})
	}
	for _, marks := range wrong {
		all = append(all, tasting{3, impl.Marks{marks}}, tasting{3, impl.Marks{fine, marks}}, tasting{3, impl.Marks{marks, fine}})
		all = append(all, tasting{3, append(slices.Repeat(impl.Marks{fine}, 11), marks)})
	}
	all = append(all, tasting{3, slices.Repeat(impl.Marks{fine}, 13)}, tasting{3, slices.Repeat(impl.Marks{fine}, 200000)}, tasting{3, make(impl.Marks, 900000)})
	return append(all, tasting{2, impl.Marks{fine}}, tasting{4, impl.Marks{fine}})
}

// risingTo returns all numbers less than below, ascending.
func risingTo(below int64) []int64 {
	var list []int64
	for i := range below {
		list = append(list, i)
	}
	return list
}

// allServings returns all orders of samples, in the order of lists.
func allServings(samples int64) [][]int64 {
	all := [][]int64{nil}
	for range samples {
		var longer [][]int64
		for _, list := range all {
			for sample := range samples {
				if !slices.Contains(list, sample) {
					longer = append(longer, append(slices.Clone(list), sample))
				}
			}
		}
		all = longer
	}
	return all
}

// noServings returns lists that are no orders of so many samples.
func noServings(samples int64) [][]int64 {
	fine := risingTo(samples)
	lists := [][]int64{nil, fine[1:], append(slices.Clone(fine), samples), append(slices.Clone(fine), 0), slices.Repeat(fine, 2)}
	for _, wrong := range []int64{-1, samples, samples + 1, 256, 1 << 32, math.MinInt64, math.MaxInt64} {
		first, last := slices.Clone(fine), slices.Clone(fine)
		first[0], last[samples-1] = wrong, wrong
		lists = append(lists, first, last)
	}
	if samples > 1 {
		twice, lacking, same := slices.Clone(fine), slices.Clone(fine), make([]int64, samples)
		twice[samples-1], lacking[0] = 0, samples-1
		// The sum is that of all numbers, but none of them is right.
		if samples > 2 {
			same[0], same[1], same[2] = 1, 1, 1
		}
		lists = append(lists, twice, lacking, same)
	}
	return append(lists, make([]int64, 900000))
}

// randomServing returns an order of samples.
func randomServing(next func(below int) int, samples int64) []int64 {
	var list []int64
	for sample := range samples {
		list = slices.Insert(list, next(len(list)+1), sample)
	}
	return list
}

// preferIn counts the tasters who have given a greater mark to a than to b.
func preferIn(m impl.Marks, a, b int64) int64 {
	var tasters int64
	for _, marks := range m {
		if marks[a] > marks[b] {
			tasters++
		}
	}
	return tasters
}

// prefersOf returns these numbers for all samples.
func prefersOf(one tasting) [][]int64 {
	var table [][]int64
	for a := range one.samples {
		var numbers []int64
		for b := range one.samples {
			numbers = append(numbers, preferIn(one.m, a, b))
		}
		table = append(table, numbers)
	}
	return table
}

// agreementIn goes through an order from the back.
func agreementIn(prefers [][]int64, order []int64) int64 {
	var sum int64
	for behind := len(order) - 1; behind > 0; behind-- {
		for ahead := range behind {
			sum += prefers[order[ahead]][order[behind]]
		}
	}
	return sum
}

// bestIn tries all orders.
func bestIn(one tasting, all [][]int64) ([]int64, int64) {
	prefers := prefersOf(one)
	best, most := []int64(nil), int64(-1)
	for _, order := range all {
		if agreement := agreementIn(prefers, order); agreement > most {
			best, most = order, agreement
		}
	}
	return best, most
}

// ranksIn puts the marks into order, and takes the first and the last place of
// those that are the same.
func ranksIn(marks []int64) []int64 {
	falling := slices.Sorted(slices.Values(marks))
	slices.Reverse(falling)
	var ranks []int64
	for _, mark := range marks {
		first := slices.Index(falling, mark) + 1
		last := first
		for last < len(falling) && falling[last] == mark {
			last++
		}
		ranks = append(ranks, int64(first+last))
	}
	return ranks
}

// sumsIn returns the sums of ranks.
func sumsIn(one tasting) []int64 {
	sums := make([]int64, one.samples)
	for _, marks := range one.m {
		for sample, rank := range ranksIn(marks) {
			sums[sample] += rank
		}
	}
	return sums
}
