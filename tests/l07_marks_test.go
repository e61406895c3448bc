package tests

import (
	"math"
	"slices"
	"testing"

	"loop.example/g01353/impl"
)

func TestValidMarks(t *testing.T) {
	for _, one := range sampleTastings() {
		is(t, show(one), "true", impl.ValidMarks(one.samples, one.m))
		is(t, "for one more", show(len(one.m) == 0 && one.samples < 8), impl.ValidMarks(one.samples+1, one.m))
		is(t, "for one less", show(len(one.m) == 0 && one.samples > 1), impl.ValidMarks(one.samples-1, one.m))
	}
	for _, one := range invalidTastings() {
		if impl.ValidMarks(one.samples, one.m) {
			t.Errorf("%.60s are valid for %d", show(one.m), one.samples)
		}
	}
}

func TestSameMarks(t *testing.T) {
	for _, one := range sampleTastings() {
		other := copyOfMarks(one.m)
		is(t, "the same", "true true", impl.SameMarks(one.m, other), impl.SameMarks(other, one.m))
		is(t, "one taster more", "false false", impl.SameMarks(one.m, append(other, nil)), impl.SameMarks(append(other, nil), one.m))
		for i, marks := range one.m {
			for j := range marks {
				other[i][j]++
				is(t, "another mark", "false false", impl.SameMarks(one.m, other), impl.SameMarks(other, one.m))
				other[i][j]--
			}
			other[i] = marks[1:]
			is(t, "a mark less", "false false", impl.SameMarks(one.m, other), impl.SameMarks(other, one.m))
			other[i] = slices.Clone(marks)
		}
	}
	is(t, "none", "true true true", impl.SameMarks(nil, nil), impl.SameMarks(nil, impl.Marks{}), impl.SameMarks(impl.Marks{nil}, impl.Marks{{}}))
	is(t, "no marks", "false", impl.SameMarks(nil, impl.Marks{nil}))
	is(t, "not valid", "true false", impl.SameMarks(impl.Marks{{-7, 99}, nil, {0}}, impl.Marks{{-7, 99}, {}, {0}}), impl.SameMarks(impl.Marks{{-7, 99}}, impl.Marks{{-7, 98}}))
	is(t, "many", "true false", impl.SameMarks(make(impl.Marks, 400000), make(impl.Marks, 400000)), impl.SameMarks(make(impl.Marks, 400000), make(impl.Marks, 400001)))
	is(t, "in other lines", "false", impl.SameMarks(impl.Marks{{1, 2}, {3}}, impl.Marks{{1}, {2, 3}}))
}

func copyOfMarks(m impl.Marks) impl.Marks {
	var own impl.Marks
	for _, marks := range m {
		own = append(own, slices.Clone(marks))
	}
	return own
}

func TestPairsFor(t *testing.T) {
	for _, one := range sampleTastings() {
		table, code := impl.PairsFor(one.samples, one.m)
		is(t, show(one), show(prefersOf(one), 0), table, code)
		for a := range table {
			for b := range a {
				equal := 0
				for _, marks := range one.m {
					if marks[a] == marks[b] {
						equal++
					}
				}
				is(t, "all tasters", show(len(one.m)), table[a][b]+table[b][a]+int64(equal))
			}
		}
	}
	is(t, "one sample", "[[0]] 0 [[0]] 0", two(impl.PairsFor(1, nil)), two(impl.PairsFor(1, impl.Marks{{20}, {0}})))
	is(t, "no tasters", "[[0 0] [0 0]] 0", two(impl.PairsFor(2, nil)))
	is(t, "equal marks", "[[0 0 0] [0 0 0] [0 0 0]] 0", two(impl.PairsFor(3, impl.Marks{{5, 5, 5}, {0, 0, 0}, {20, 20, 20}})))
	is(t, "the first one is greater", "[[0 1] [0 0]] 0 [[0 0] [1 0]] 0", two(impl.PairsFor(2, impl.Marks{{1, 0}})), two(impl.PairsFor(2, impl.Marks{{0, 20}})))
	is(t, "some are equal", "[[0 0 1] [1 0 1] [2 1 0]] 0", two(impl.PairsFor(3, impl.Marks{{5, 5, 4}, {4, 5, 5}, {5, 5, 5}, {4, 4, 5}})))
}

// P18: no order agrees more than the best one, nor this more than the bound.
func TestBestOrder(t *testing.T) {
	var all [impl.MaxSamples + 1][][]int64
	for samples := range all {
		all[samples] = allServings(int64(samples))
	}
	several := 0
	for i, one := range sampleTastings() {
		want, most := bestIn(one, all[one.samples])
		is(t, show(one), show(want, most, 0), three(impl.BestOrder(one.samples, one.m)))
		is(t, "its agreement", show(most, 0), two(impl.AgreementOf(one.samples, one.m, want)))
		prefers := prefersOf(one)
		if agreementIn(prefers, reversed(want)) == most && one.samples > 1 {
			several++
		}
		bound := int64(0)
		for a := range prefers {
			for b := range a {
				bound += max(prefers[a][b], prefers[b][a])
			}
		}
		is(t, "bound", show(bound, 0), two(impl.AgreementBound(one.samples, one.m)))
		if most > bound {
			t.Errorf("%v agrees more than %d", want, bound)
		}
		orders := all[one.samples]
		for j := 0; j < len(orders); j += 1 + len(orders)/24 {
			order := orders[(i+j)%len(orders)]
			agreement, code := impl.AgreementOf(one.samples, one.m, order)
			is(t, show(one, order), show(agreementIn(prefers, order), 0), agreement, code)
			if agreement > most {
				t.Errorf("%v agrees more than the best order %v", order, want)
			}
		}
	}
	if several < 5 {
		t.Errorf("there are %d samples whose orders are all as good", several)
	}
}

func TestBestOrderEdges(t *testing.T) {
	best := func(m ...[]int64) string { return three(impl.BestOrder(int64(len(m[0])), m)) }
	bound := func(m ...[]int64) string { return two(impl.AgreementBound(int64(len(m[0])), m)) }
	is(t, "one sample", "[0] 0 0 [0] 0 0", three(impl.BestOrder(1, nil)), best([]int64{20}))
	is(t, "no tasters", "[0 1 2 3 4 5 6 7] 0 0", three(impl.BestOrder(8, nil)))
	is(t, "no tasters, bound", "0 0 0 0", two(impl.AgreementBound(1, nil)), two(impl.AgreementBound(8, nil)))
	is(t, "all marks equal", "[0 1 2 3] 0 0", best([]int64{7, 7, 7, 7}, []int64{7, 7, 7, 7}))
	is(t, "all marks equal, bound", "0 0", bound([]int64{7, 7, 7, 7}, []int64{7, 7, 7, 7}))
	is(t, "some marks equal", "[1 3 0 2] 4 0", best([]int64{2, 5, 2, 5}))
	is(t, "two who disagree", "[0 1] 1 0", best([]int64{1, 2}, []int64{2, 1}))
	is(t, "two who disagree, bound", "1 0", bound([]int64{1, 2}, []int64{2, 1}))
	is(t, "two who disagree about all", "[0 1 2 3] 6 0", best([]int64{1, 2, 3, 4}, []int64{4, 3, 2, 1}))
	is(t, "by how much does not count", "[1 0] 2 0", best([]int64{20, 0}, []int64{0, 1}, []int64{0, 1}))
	is(t, "a ring", "[0 1 2] 5 0", best(ringMarks()...))
	is(t, "a ring, bound", "6 0", bound(ringMarks()...))
	is(t, "a ring the other way", "[0 2 1] 5 0", best([]int64{1, 2, 3}, []int64{3, 1, 2}, []int64{2, 3, 1}))
	is(t, "a ring behind another one", "[1 0 2 3] 14 0", best([]int64{3, 9, 2, 1}, []int64{1, 9, 3, 2}, []int64{2, 9, 1, 3}))
	is(t, "the least one that is as good in front", "[1 0 2] 2 0", best([]int64{0, 1, 0}))
	is(t, "the least one behind", "[0 2 1] 2 0", best([]int64{1, 0, 1}))
	twelve := slices.Repeat([][]int64{{0, 1, 2, 3, 4, 5, 6, 7}}, 12)
	is(t, "most marks", "[7 6 5 4 3 2 1 0] 336 0 336 0", best(twelve...), bound(twelve...))
}

func TestAgreementOfEdges(t *testing.T) {
	m := tastingExample().m
	is(t, "the example's orders", "3 0 3 0 3 0", two(impl.AgreementOf(3, m, []int64{0, 1, 2})), two(impl.AgreementOf(3, m, []int64{1, 0, 2})), two(impl.AgreementOf(3, m, []int64{1, 2, 0})))
	is(t, "others", "2 0 2 0 2 0", two(impl.AgreementOf(3, m, []int64{0, 2, 1})), two(impl.AgreementOf(3, m, []int64{2, 0, 1})), two(impl.AgreementOf(3, m, []int64{2, 1, 0})))
	is(t, "one sample", "0 0 0 0", two(impl.AgreementOf(1, nil, []int64{0})), two(impl.AgreementOf(1, impl.Marks{{7}}, []int64{0})))
	is(t, "no tasters", "0 0", two(impl.AgreementOf(3, nil, []int64{2, 0, 1})))
	is(t, "equal marks", "0 0", two(impl.AgreementOf(3, impl.Marks{{7, 7, 7}}, []int64{2, 0, 1})))
	for samples := int64(1); samples <= impl.MaxSamples; samples++ {
		for _, list := range noServings(samples) {
			is(t, "state", "0 4 0 4", two(impl.AgreementOf(samples, nil, list)), two(impl.AgreementOf(samples, impl.Marks{make([]int64, samples)}, list)))
		}
	}
	for _, one := range invalidTastings() {
		is(t, "invalid", "0 1 0 1", two(impl.AgreementOf(one.samples, one.m, nil)), two(impl.AgreementOf(one.samples, one.m, risingTo(3))))
	}
}

// winnerIn counts for whom each taster is, pair by pair.
func winnerIn(one tasting) (int64, int64) {
	for a := range one.samples {
		wins := int64(0)
		for b := range one.samples {
			if preferIn(one.m, a, b) > preferIn(one.m, b, a) {
				wins++
			}
		}
		if wins == one.samples-1 {
			return a, impl.OK
		}
	}
	return 0, impl.ErrNotFound
}

// P18: a winner comes first in the best order.
func TestWinnerOf(t *testing.T) {
	winners := map[int64]int{}
	for _, one := range sampleTastings() {
		want, code := winnerIn(one)
		is(t, show(one), show(want, code), two(impl.WinnerOf(one.samples, one.m)))
		if code != impl.OK {
			winners[-1]++
			continue
		}
		winners[want]++
		best, _, _ := impl.BestOrder(one.samples, one.m)
		is(t, "first in the best order", show(want), best[0])
	}
	for sample := int64(-1); sample < impl.MaxSamples; sample++ {
		if winners[sample] == 0 {
			t.Errorf("the winners of the samples are %v", winners)
		}
	}
}

func TestWinnerOfEdges(t *testing.T) {
	winner := func(m ...[]int64) string { return two(impl.WinnerOf(int64(len(m[0])), m)) }
	is(t, "a single sample", "0 0 0 0", two(impl.WinnerOf(1, nil)), winner([]int64{0}))
	is(t, "no tasters", "0 6 0 6", two(impl.WinnerOf(2, nil)), two(impl.WinnerOf(8, nil)))
	is(t, "all marks equal", "0 6", winner([]int64{3, 3, 3}))
	is(t, "two are equal", "0 6 0 6", winner([]int64{5, 5, 3}), winner([]int64{3, 5, 5}))
	is(t, "as many for both", "0 6", winner([]int64{5, 3}, []int64{3, 5}))
	is(t, "as many for two of three", "0 6", winner([]int64{5, 3, 0}, []int64{3, 5, 0}))
	is(t, "most are equal", "1 0", winner([]int64{5, 5}, []int64{5, 5}, []int64{0, 1}))
	is(t, "by how much does not count", "1 0", winner([]int64{20, 0}, []int64{0, 1}, []int64{0, 1}))
	is(t, "a ring", "0 6", winner(ringMarks()...))
	is(t, "ahead of a ring", "3 0", winner([]int64{3, 2, 1, 4}, []int64{1, 3, 2, 4}, []int64{2, 1, 3, 0}))
	is(t, "a winner whom most do not like best", "1 0", winner([]int64{3, 2, 1}, []int64{3, 2, 1}, []int64{1, 2, 3}, []int64{1, 2, 3}, []int64{1, 3, 1}))
	is(t, "the last one of eight", "7 0", winner([]int64{0, 1, 2, 3, 4, 5, 6, 7}))
}

// strangeIn looks at the tasters from the last one on.
func strangeIn(one tasting, best []int64) (int64, int64) {
	strange, least := int64(0), int64(math.MaxInt64)
	for taster := len(one.m) - 1; taster >= 0; taster-- {
		alone := tasting{one.samples, one.m[taster : taster+1]}
		if agreement := agreementIn(prefersOf(alone), best); agreement <= least {
			strange, least = int64(taster), agreement
		}
	}
	return strange, least
}

func TestStrangeTaster(t *testing.T) {
	found := map[int64]int{}
	for _, one := range sampleTastings() {
		if len(one.m) == 0 {
			is(t, "no tasters", "0 0 6", three(impl.StrangeTaster(one.samples, one.m)))
			continue
		}
		best, sum, _ := impl.BestOrder(one.samples, one.m)
		strange, least := strangeIn(one, best)
		found[strange]++
		is(t, show(one), show(strange, least, 0), three(impl.StrangeTaster(one.samples, one.m)))
		left, code := impl.WithoutTaster(one.samples, one.m, strange)
		is(t, "without the strange one", show(sum-least, 0), two(impl.AgreementOf(one.samples, left, best)))
		is(t, "is left out", show(len(one.m)-1, 0), len(left), code)
	}
	if len(found) < 8 {
		t.Errorf("the strange tasters of the samples are %v", found)
	}
}

func TestStrangeTasterEdges(t *testing.T) {
	strange := func(m ...[]int64) string { return three(impl.StrangeTaster(int64(len(m[0])), m)) }
	is(t, "the example's", "1 1 0", three(impl.StrangeTaster(3, tastingExample().m)))
	is(t, "one sample", "0 0 0", strange([]int64{7}, []int64{3}))
	is(t, "one taster", "0 3 0", strange([]int64{7, 6, 8}))
	is(t, "one taster with equal marks", "0 2 0", strange([]int64{7, 6, 7}))
	is(t, "all marks equal", "0 0 0", strange([]int64{7, 7, 7}, []int64{7, 7, 7}))
	is(t, "the first one of several", "1 0 0", strange([]int64{2, 1}, []int64{1, 2}, []int64{2, 1}, []int64{1, 2}, []int64{2, 1}))
	is(t, "equal marks agree with nothing", "1 0 0", strange([]int64{2, 1}, []int64{1, 1}, []int64{1, 2}, []int64{2, 1}))
	is(t, "a ring", "1 1 0", strange(ringMarks()...))
	is(t, "the last one of twelve", "11 0 0", strange(append(slices.Repeat([][]int64{{2, 1}}, 11), []int64{1, 2})...))
}

func TestWithoutTaster(t *testing.T) {
	for _, one := range sampleTastings() {
		for i := range one.m {
			want := append(copyOfMarks(one.m[:i]), one.m[i+1:]...)
			left, code := impl.WithoutTaster(one.samples, one.m, int64(i))
			is(t, show(one, i), show(want, 0), left, code)
			// What this taster prefers is lacking, and nothing else.
			sum := sumsIn(one)
			for sample, rank := range ranksIn(one.m[i]) {
				sum[sample] -= rank
			}
			is(t, "ranks", show(sum, 0), two(impl.RankSums(one.samples, left)))
		}
		for _, wrong := range []int64{-1, int64(len(one.m)), 12, 1 << 40, math.MinInt64, math.MaxInt64} {
			is(t, "range", "[] 2", two(impl.WithoutTaster(one.samples, one.m, wrong)))
		}
	}
	is(t, "the only one", "[] 0", two(impl.WithoutTaster(2, impl.Marks{{1, 2}}, 0)))
	is(t, "no tasters", "[] 2", two(impl.WithoutTaster(2, nil, 0)))
	for _, one := range invalidTastings() {
		is(t, "invalid is ahead of range", "[] 1", two(impl.WithoutTaster(one.samples, one.m, -1)))
	}
}
