package tests

import (
	"slices"
	"testing"

	"loop.example/g01353/impl"
)

// P19: ranks are less for greater marks.
func TestRanksOf(t *testing.T) {
	for _, one := range sampleTastings() {
		var want [][]int64
		for _, marks := range one.m {
			want = append(want, ranksIn(marks))
		}
		ranks, code := impl.RanksOf(one.samples, one.m)
		is(t, show(one), show(want, 0), ranks, code)
		for taster, marks := range one.m {
			sum := int64(0)
			for a, mark := range marks {
				sum += ranks[taster][a]
				for b, other := range marks {
					if (mark > other) != (ranks[taster][a] < ranks[taster][b]) || (mark == other) != (ranks[taster][a] == ranks[taster][b]) {
						t.Errorf("%v have the ranks %v", marks, ranks[taster])
					}
				}
			}
			is(t, "all places, twice", show(one.samples*(one.samples+1)), sum)
		}
	}
}

func TestRanksOfEdges(t *testing.T) {
	ranks := func(m ...[]int64) string { return two(impl.RanksOf(int64(len(m[0])), m)) }
	is(t, "one sample", "[[2] [2]] 0", ranks([]int64{0}, []int64{20}))
	is(t, "no tasters", "[] 0 [] 0", two(impl.RanksOf(1, nil)), two(impl.RanksOf(8, impl.Marks{})))
	is(t, "two", "[[2 4] [4 2] [3 3]] 0", ranks([]int64{1, 0}, []int64{0, 20}, []int64{5, 5}))
	is(t, "all different", "[[8 2 4 6]] 0", ranks([]int64{0, 20, 19, 1}))
	is(t, "all equal", "[[4 4 4]] 0", ranks([]int64{20, 20, 20}))
	is(t, "all equal, eight", "[[9 9 9 9 9 9 9 9]] 0", ranks(make([]int64, 8)))
	is(t, "equal in front", "[[3 3 6]] 0", ranks([]int64{7, 7, 1}))
	is(t, "equal in the middle", "[[8 5 5 2]] 0", ranks([]int64{1, 7, 7, 9}))
	is(t, "equal behind", "[[2 6 6 6]] 0", ranks([]int64{9, 7, 7, 7}))
	is(t, "two by two", "[[7 3 7 3]] 0", ranks([]int64{4, 5, 4, 5}))
}

func TestRankSums(t *testing.T) {
	equal := 0
	for _, one := range sampleTastings() {
		sums := sumsIn(one)
		is(t, show(one), show(sums, 0), two(impl.RankSums(one.samples, one.m)))
		order, code := impl.SumOrder(one.samples, one.m)
		is(t, "order", "true 0", impl.IsOrder(one.samples, order), code)
		for place := 1; place < len(order); place++ {
			ahead, behind := order[place-1], order[place]
			if sums[ahead] > sums[behind] || sums[ahead] == sums[behind] && ahead > behind {
				t.Errorf("%v have the order %v", sums, order)
			}
			if sums[ahead] == sums[behind] {
				equal++
			}
		}
		// What the squares sum to is told by the differences of all pairs as well.
		spread := int64(0)
		for i, sum := range sums {
			for _, other := range sums[:i] {
				spread += one.samples * (sum - other) * (sum - other)
			}
		}
		is(t, "spread", show(spread, 0), two(impl.SpreadOf(one.samples, one.m)))
	}
	if equal < 100 {
		t.Errorf("%d sums of ranks are equal", equal)
	}
}

func TestRankSumsEdges(t *testing.T) {
	all := func(samples int64, m ...[]int64) string {
		return two(impl.RankSums(samples, m)) + " " + two(impl.SumOrder(samples, m)) + " " + two(impl.SpreadOf(samples, m))
	}
	is(t, "one sample", "[0] 0 [0] 0 0 0", all(1))
	is(t, "one sample, two tasters", "[4] 0 [0] 0 0 0", all(1, []int64{7}, []int64{0}))
	is(t, "no tasters", "[0 0 0] 0 [0 1 2] 0 0 0", all(3))
	is(t, "all marks equal", "[8 8 8] 0 [0 1 2] 0 0 0", all(3, []int64{5, 5, 5}, []int64{0, 0, 0}))
	is(t, "tasters who disagree", "[8 8 8] 0 [0 1 2] 0 0 0", all(3, []int64{1, 2, 3}, []int64{3, 2, 1}))
	is(t, "a ring", "[12 12 12] 0 [0 1 2] 0 0 0", all(3, ringMarks()...))
	is(t, "two", "[4 2] 0 [1 0] 0 8 0", all(2, []int64{1, 2}))
	is(t, "two sums are equal", "[5 2 5] 0 [1 0 2] 0 54 0", all(3, []int64{1, 2, 1}))
	is(t, "by how much does not count", "[6 6] 0 [0 1] 0 0 0", all(2, []int64{20, 0}, []int64{0, 1}))
	rising := slices.Repeat([][]int64{{0, 1, 2, 3, 4, 5, 6, 7}}, 12)
	is(t, "the greatest spread", "[192 168 144 120 96 72 48 24] 0 [7 6 5 4 3 2 1 0] 0 1548288 0", all(8, rising...))
}
