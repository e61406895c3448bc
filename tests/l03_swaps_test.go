package tests

import (
	"math"
	"slices"
	"testing"

	"loop.example/g01353/impl"
)

func TestSwapExample(t *testing.T) {
	a, b := swapExample()
	list := []impl.Crate{a, b}
	is(t, "differ", "[0 1 2] 0", two(impl.DifferIn(a, b)))
	is(t, "least", "2 0", two(impl.LeastSwaps(a, b)))
	is(t, "swaps", "0-1 1-2 0", swapText(impl.SwapsFor(a, b)))
	is(t, "rings", "[0 0 0] 0", two(impl.BestRings(a, b)))
	is(t, "moves", "0-3 1-0 2-1 3-2 0", swapText(impl.MovesFor(a, b)))
	is(t, "labels", "[{1 1999} {2 1999}] 4 0", three(impl.BestLabels(list)))
	is(t, "pure", show([]impl.Crate{crateOf(1, 1), crateOf(2, 2), crateOf(3, 3)}, 0), two(impl.PureStack(list)))
}

func TestSwapLimits(t *testing.T) {
	is(t, "limits", "8 60 6", impl.MaxDiffer, impl.MaxSwaps, impl.MaxLabels)
}

// P6: swaps keep all bottles.
func TestSwapPlaces(t *testing.T) {
	for _, c := range sampleCrates() {
		for _, s := range allSwaps() {
			is(t, "swapped", show(swapIn(c, s), 0), two(impl.SwapPlaces(c, s)))
			is(t, "the other way", show(swapIn(c, s), 0), two(impl.SwapPlaces(c, swap(s.To, s.From))))
		}
		for place := range int8(impl.Places) {
			is(t, "a place with itself", show(c, 0), two(impl.SwapPlaces(c, swap(place, place))))
		}
	}
	a, _ := swapExample()
	is(t, "with nothing", show(crateOf(0, 2, 3, 1), 0), two(impl.SwapPlaces(a, swap(0, 3))))
	is(t, "nothing with nothing", show(a, 0), two(impl.SwapPlaces(a, swap(3, 11))))
	for _, s := range invalidSwaps() {
		is(t, "range", show(impl.Crate{}, 2), two(impl.SwapPlaces(a, s)))
		is(t, "invalid first", show(impl.Crate{}, 1), two(impl.SwapPlaces(invalidCrates()[0], s)))
	}
}

func TestSwapAll(t *testing.T) {
	a, b := swapExample()
	is(t, "none", show(a, 0), two(impl.SwapAll(a, nil)))
	is(t, "one after the other", show(b, 0), two(impl.SwapAll(a, swaps(t, "0-1 1-2"))))
	is(t, "in their order", show(crateOf(3, 1, 2), 0), two(impl.SwapAll(a, swaps(t, "1-2 0-1"))))
	is(t, "twice", show(a, 0), two(impl.SwapAll(a, swaps(t, "0-7 7-0 5-5"))))
	all := allSwaps()
	for i, c := range sampleCrates() {
		some := all[i%7 : i%7+i%60]
		end := c
		for _, s := range some {
			end = swapIn(end, s)
		}
		got, code := impl.SwapAll(c, some)
		is(t, "swapped", show(end, 0), got, code)
		is(t, "kept", show(sortedOf(bottlesOf(c))), sortedOf(bottlesOf(got)))
	}
}

func TestSwapAllErrors(t *testing.T) {
	a, b := swapExample()
	none := show(impl.Crate{})
	sixty := slices.Repeat([]impl.Swap{swap(0, 1)}, 60)
	is(t, "60", show(a, 0), two(impl.SwapAll(a, sixty)))
	is(t, "60 checked", "true 0", two(impl.CheckSwaps(a, a, sixty)))
	for _, s := range invalidSwaps() {
		for _, list := range [][]impl.Swap{{s}, {swap(0, 1), s}, {s, swap(0, 1)}, append(slices.Clone(sixty[1:]), s)} {
			is(t, "range", none+" 2", two(impl.SwapAll(a, list)))
			is(t, "range checked", "false 2", two(impl.CheckSwaps(a, b, list)))
		}
		for _, list := range [][]impl.Swap{append(slices.Clone(sixty), s), append([]impl.Swap{s}, sixty...), slices.Repeat([]impl.Swap{s}, 400000)} {
			is(t, "limit ahead of range", none+" 3", two(impl.SwapAll(a, list)))
			is(t, "limit checked", "false 3", two(impl.CheckSwaps(a, b, list)))
			is(t, "invalid ahead of limit", none+" 1", two(impl.SwapAll(invalidCrates()[0], list)))
			is(t, "invalid checked", "false 1", two(impl.CheckSwaps(a, invalidCrates()[0], list)))
		}
	}
	is(t, "61", none+" 3", two(impl.SwapAll(a, append(sixty, swap(0, 1)))))
	is(t, "61 checked", "false 3", two(impl.CheckSwaps(a, a, append(sixty, swap(0, 1)))))
}

func TestDifferInAndSameBottles(t *testing.T) {
	crates := sampleCrates()
	for i, a := range crates {
		for j, b := range crates {
			if (i+j)%5 > 1 && i != j {
				continue
			}
			is(t, "differ", show(pair{a, b}.differs(), 0), two(impl.DifferIn(a, b)))
			same := slices.Equal(sortedOf(bottlesOf(a)), sortedOf(bottlesOf(b)))
			is(t, "same", show(same, 0), two(impl.SameBottles(a, b)))
		}
	}
	for _, p := range samplePairs() {
		is(t, "differ", show(p.differs(), 0), two(impl.DifferIn(p.a, p.b)))
		is(t, "same", "true 0", two(impl.SameBottles(p.a, p.b)))
	}
	a, b := swapExample()
	is(t, "nothing differs", "[] 0", two(impl.DifferIn(a, a)))
	is(t, "all differ", "[0 1 2 3 4 5 6 7 8 9 10 11] 0", two(impl.DifferIn(impl.Crate{}, fullOf(bottle(1, 1999)))))
	is(t, "a year", "[0] 0", two(impl.DifferIn(crateWith(0, bottle(1, 1999)), crateWith(0, bottle(1, 2000)))))
	is(t, "another year", "false 0", two(impl.SameBottles(crateWith(0, bottle(1, 1999)), crateWith(0, bottle(1, 2000)))))
	is(t, "one more", "false 0", two(impl.SameBottles(a, crateOf(1, 2, 3, 3))))
	is(t, "others more", "false 0", two(impl.SameBottles(crateOf(1, 1, 2), crateOf(1, 2, 2))))
	is(t, "other places", "true 0", two(impl.SameBottles(b, crateOf(0, 0, 0, 3, 0, 2, 0, 0, 1))))
	is(t, "empty", "true 0", two(impl.SameBottles(impl.Crate{}, impl.Crate{})))
}

// The search that the other tests rely on is held against all swaps whatever.
func TestLeastOf(t *testing.T) {
	checked := 0
	for i, p := range nearPairs(6) {
		known := map[impl.Crate]int64{}
		least := leastOf(p.a, p.b, known)
		if i%5 != 0 || least > 3 {
			continue
		}
		checked++
		found := map[impl.Crate]bool{p.a: true}
		for range least - 1 {
			for _, c := range cratesOf(found) {
				for _, s := range allSwaps() {
					found[swapIn(c, s)] = true
				}
			}
		}
		is(t, "fewer swaps", show(least == 0), found[p.b])
	}
	if checked < 40 {
		t.Errorf("only %d pairs are checked", checked)
	}
}

func cratesOf(set map[impl.Crate]bool) []impl.Crate {
	var list []impl.Crate
	for c := range set {
		list = append(list, c)
	}
	return list
}

// P6: no fewer swaps make a crate another one than told.
func TestLeastSwaps(t *testing.T) {
	for _, p := range nearPairs(8) {
		least := leastOf(p.a, p.b, map[impl.Crate]int64{})
		is(t, "least", show(least, 0), two(impl.LeastSwaps(p.a, p.b)))
		is(t, "the other way", show(least, 0), two(impl.LeastSwaps(p.b, p.a)))
		list, code := impl.SwapsFor(p.a, p.b)
		is(t, "as many", show(least, 0), len(list), code)
		is(t, "check", "true 0", two(impl.CheckSwaps(p.a, p.b, list)))
		end, code := impl.SwapAll(p.a, list)
		is(t, "made", show(p.b, 0), end, code)
	}
}

// Each swap is the first one of all, also of places that are right, behind
// which one less is needed.
func TestSwapsForIsFirst(t *testing.T) {
	for _, p := range nearPairs(8) {
		known := map[impl.Crate]int64{}
		list, code := impl.SwapsFor(p.a, p.b)
		is(t, "code", "0", code)
		c := p.a
		for _, got := range list {
			first := slices.IndexFunc(allSwaps(), func(s impl.Swap) bool {
				return leastOf(swapIn(c, s), p.b, known) == leastOf(c, p.b, known)-1
			})
			is(t, "first", show(allSwaps()[first]), got)
			c = swapIn(c, got)
		}
		is(t, "end", show(p.b), c)
	}
}

func TestSwapsOfAlikeBottles(t *testing.T) {
	both := func(a, b impl.Crate) string {
		list, code := impl.SwapsFor(a, b)
		return show(impl.SwapsText(list), code, two(impl.BestRings(a, b)))
	}
	is(t, "the same", " 0 [] 0", both(crateOf(1, 1, 2), crateOf(1, 1, 2)))
	is(t, "empty", " 0 [] 0", both(impl.Crate{}, impl.Crate{}))
	is(t, "two rings", "0-2 1-3 0 [0 1 0 1] 0", both(crateOf(1, 1, 2, 2), crateOf(2, 2, 1, 1)))
	is(t, "nothing is alike", "0-2 1-3 0 [0 1 0 1] 0", both(crateOf(1, 1), crateOf(0, 0, 1, 1)))
	is(t, "by one", "2-3 0 [0 0] 0", both(crateOf(1, 1, 1, 2), crateOf(1, 1, 2, 1)))
	is(t, "ring of three and of two", "0-1 1-2 3-4 0 [0 0 0 1 1] 0", both(crateOf(1, 2, 3, 4, 5), crateOf(2, 3, 1, 5, 4)))
	is(t, "cut where alike", "0-1 2-3 0 [0 0 1 1] 0", both(crateOf(1, 2, 3, 1), crateOf(2, 1, 1, 3)))
	is(t, "first as a list", "0-1 2-3 0 [0 0 1 1] 0", both(crateOf(1, 2, 1, 2), crateOf(2, 1, 2, 1)))
	is(t, "through an alike one", "0-1 1-2 2-3 0 [0 0 0 0] 0", both(crateOf(1, 2, 3, 4), crateOf(2, 3, 4, 1)))
	eight := crateOf(1, 1, 1, 1, 2, 2, 2, 2)
	is(t, "eight", "0-4 1-5 2-6 3-7 0 [0 1 2 3 0 1 2 3] 0", both(eight, crateOf(2, 2, 2, 2, 1, 1, 1, 1)))
}

func TestSwapErrors(t *testing.T) {
	calls := []struct {
		name, zero string
		run        func(a, b impl.Crate) string
	}{
		{"LeastSwaps", "0", func(a, b impl.Crate) string { return two(impl.LeastSwaps(a, b)) }},
		{"SwapsFor", "[]", func(a, b impl.Crate) string { return two(impl.SwapsFor(a, b)) }},
		{"BestRings", "[]", func(a, b impl.Crate) string { return two(impl.BestRings(a, b)) }},
		{"RingsOf", "0", func(a, b impl.Crate) string { return two(impl.RingsOf(a, b, make([]int64, len(pair{a, b}.differs())))) }},
		{"RingsOf other errors", "0", func(a, b impl.Crate) string { return two(impl.RingsOf(a, b, []int64{8, -1, 9, 9, 9, 9, 9, 9, 9, 9})) }},
	}
	nine, other := crateOf(1, 2, 3, 4, 5, 6, 7, 8, 9), crateOf(2, 3, 4, 5, 6, 7, 8, 9, 1)
	for _, one := range calls {
		is(t, one.name+" state", one.zero+" 4", one.run(crateOf(1, 2), crateOf(1, 3)))
		is(t, one.name+" of fewer", one.zero+" 4", one.run(crateOf(1, 2), crateOf(2)))
		is(t, one.name+" numbers", one.zero+" 4", one.run(crateOf(1, 1, 2), crateOf(1, 2, 2)))
		is(t, one.name+" year", one.zero+" 4", one.run(crateWith(0, bottle(1, 1999)), crateWith(1, bottle(1, 2000))))
		is(t, one.name+" limit", one.zero+" 3", one.run(nine, other))
		is(t, one.name+" limit of alike ones", one.zero+" 3", one.run(crateOf(1, 1, 1, 1, 1), crateOf(0, 0, 0, 0, 0, 1, 1, 1, 1, 1)))
		is(t, one.name+" state ahead of limit", one.zero+" 4", one.run(nine, crateOf(2, 3, 4, 5, 6, 7, 8, 9, 10)))
	}
	eight, turned := crateOf(1, 2, 3, 4, 5, 6, 7, 8, 9), crateOf(2, 3, 4, 5, 6, 7, 8, 1, 9)
	is(t, "8 places", "7 0", two(impl.LeastSwaps(eight, turned)))
	is(t, "8 swaps", "0-1 1-2 2-3 3-4 4-5 5-6 6-7 0", swapText(impl.SwapsFor(eight, turned)))
	is(t, "8 rings", "[0 0 0 0 0 0 0 0] 0", two(impl.BestRings(eight, turned)))
	is(t, "8 parts", "1 0", two(impl.RingsOf(eight, turned, slices.Repeat([]int64{7}, 8))))
}

func TestCheckSwaps(t *testing.T) {
	a, b := swapExample()
	check := func(a, b impl.Crate, text string) string { return two(impl.CheckSwaps(a, b, swaps(t, text))) }
	is(t, "fine", "true 0", check(a, b, "0-1 1-2"))
	is(t, "others", "true 0", check(a, b, "2-0 0-1"))
	is(t, "more than needed", "true 0", check(a, b, "5-5 0-1 4-3 1-2 3-4"))
	is(t, "another order", "false 0", check(a, b, "1-2 0-1"))
	is(t, "the other way", "false 0", check(b, a, "0-1 1-2"))
	is(t, "one is missing", "false 0", check(a, b, "0-1"))
	is(t, "none for the same", "true 0", check(a, a, ""))
	is(t, "none for others", "false 0", check(a, b, ""))
	is(t, "alike", "true 0", check(crateOf(1, 1), crateOf(1, 1), "0-1"))
	is(t, "not the same bottles", "false 0", check(a, crateOf(2, 3, 4), "0-1 1-2"))
	is(t, "more than 8 places", "true 0", check(crateOf(1, 2, 3, 4, 5, 6, 7, 8, 9, 10), crateOf(2, 1, 4, 3, 6, 5, 8, 7, 10, 9), "0-1 2-3 4-5 6-7 8-9"))
}

func TestRingsOf(t *testing.T) {
	a, b := crateOf(1, 2, 3, 4, 1), crateOf(2, 1, 4, 3, 1)
	rings := func(parts ...int64) string { return two(impl.RingsOf(a, b, parts)) }
	is(t, "two", "2 0", rings(0, 0, 1, 1))
	is(t, "any numbers", "2 0", rings(7, 7, 3, 3))
	is(t, "one", "1 0", rings(0, 0, 0, 0))
	is(t, "no rings", "0 8", rings(0, 1, 0, 1))
	is(t, "one of them is none", "0 8", rings(0, 0, 0, 1))
	is(t, "single ones", "0 8", rings(0, 1, 2, 3))
	for _, part := range []int64{8, -1, 256, 1 << 32, math.MinInt64, math.MaxInt64} {
		is(t, "range", "0 2", rings(0, 0, 1, part))
		is(t, "range ahead of proof", "0 2", rings(part, 0, 1, 2))
	}
	is(t, "too few", "0 2", rings(0, 0, 0))
	is(t, "too many", "0 2", rings(0, 0, 0, 0, 0))
	is(t, "none of four", "0 2", rings())
	is(t, "many", "0 2", rings(make([]int64, 900000)...))
	is(t, "nothing differs", "0 0", two(impl.RingsOf(a, a, nil)))
	is(t, "a part of nothing", "0 2", two(impl.RingsOf(a, a, []int64{0})))
	is(t, "nothing counts as well", "0 8", two(impl.RingsOf(crateOf(1, 1), crateOf(0, 1, 1), []int64{0, 1})))
	is(t, "alike ones and nothing", "2 0", two(impl.RingsOf(crateOf(1, 1), crateOf(0, 0, 1, 1), []int64{0, 1, 1, 0})))
	wide, back := crateOf(1, 2, 1, 2, 1, 2, 1, 2), crateOf(2, 1, 2, 1, 2, 1, 2, 1)
	is(t, "four", "4 0", two(impl.RingsOf(wide, back, []int64{4, 5, 6, 7, 7, 6, 5, 4})))
	halves := []int64{0, 0, 0, 0, 1, 1, 1, 1}
	is(t, "three for one", "0 8", two(impl.RingsOf(crateOf(1, 1, 1, 3, 2, 2, 2, 2), crateOf(2, 2, 2, 2, 1, 1, 1, 3), halves)))
	is(t, "two for one", "0 8", two(impl.RingsOf(crateOf(1, 1, 3, 2, 2, 2), crateOf(2, 2, 2, 1, 1, 3), halves[1:7])))
	is(t, "no whole one", "0 8", two(impl.RingsOf(wide, back, []int64{0, 1, 0, 1, 2, 2, 2, 2})))
}

// eachParts calls look with all lists of parts in the order of lists, each
// number being at most one more than those ahead of it if renamed is true.
func eachParts(size, below int, renamed bool, look func(parts []int64)) {
	parts := make([]int64, size)
	var fill func(i int, most int64)
	fill = func(i int, most int64) {
		if i == size {
			look(parts)
			return
		}
		for part := int64(0); part < int64(below) && (!renamed || part <= most+1); part++ {
			parts[i] = part
			fill(i+1, max(most, part))
		}
	}
	fill(0, -1)
}

// P6: no rings are more than the best ones, which come first of those.
func TestBestRings(t *testing.T) {
	for i, p := range nearPairs(8) {
		places := p.differs()
		var best []int64
		eachParts(len(places), len(places), true, func(parts []int64) {
			if numbersIn(parts) > numbersIn(best) && areRings(p, parts) {
				best = slices.Clone(parts)
			}
		})
		got, code := impl.BestRings(p.a, p.b)
		is(t, "best", show(best, 0), got, code)
		is(t, "rings", show(numbersIn(best), 0), two(impl.RingsOf(p.a, p.b, got)))
		is(t, "swaps", show(len(places)-numbersIn(best), 0), two(impl.LeastSwaps(p.a, p.b)))
		if len(places) > 5 || i%3 != 0 {
			continue
		}
		// Other numbers for the same parts come behind.
		eachParts(len(places), len(places), false, func(parts []int64) {
			rings, code := impl.RingsOf(p.a, p.b, parts)
			if !areRings(p, parts) {
				is(t, "no rings", "0 8", rings, code)
				return
			}
			is(t, "rings", show(numbersIn(parts), 0), rings, code)
			if int(rings) == numbersIn(best) && int(slices.Max(append(parts, 0))) < numbersIn(best) && slices.Compare(parts, best) < 0 {
				t.Errorf("%v comes ahead of %v", parts, best)
			}
		})
	}
}
