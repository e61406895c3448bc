package tests

import (
	"slices"
	"testing"

	"loop.example/g01353/impl"
)

// filled is an order that has been filled: what is left, and the cases with all
// that was wanted.
type filled struct {
	filling
	left  []impl.Crate
	cases []impl.Crate
}

// filledOrders returns all of sampleFillings that can be filled.
func filledOrders(t *testing.T) []filled {
	t.Helper()
	var all []filled
	for _, one := range sampleFillings() {
		left, cases, code := impl.FillOrder(one.list, one.order)
		can, _ := impl.CanFill(one.list, one.order)
		is(t, "can be filled", show(can), code == impl.OK)
		if can {
			all = append(all, filled{one, left, cases})
		}
	}
	if len(all) < 200 {
		t.Fatalf("%d orders are filled", len(all))
	}
	return all
}

// P20: what is left, and what is in the cases, is what there was.
func TestFilledOrdersKeepBottles(t *testing.T) {
	for _, one := range filledOrders(t) {
		is(t, "all bottles", show(sortedOf(bottlesOf(one.list...))), sortedOf(slices.Concat(bottlesOf(one.left...), bottlesOf(one.cases...))))
		is(t, "in the cases", show(bottlesWanted(one.order)), bottlesOf(one.cases...))
		for _, w := range one.order {
			there, _ := impl.CountOf(one.list, w.Bottle)
			is(t, "left", show(there-int64(w.Number), 0), two(impl.CountOf(one.left, w.Bottle)))
			is(t, "wanted", show(w.Number, 0), two(impl.CountOf(one.cases, w.Bottle)))
		}
		wanted, _ := impl.WantedIn(one.order)
		is(t, "cases", show(len(one.cases), 0), two(impl.FewestCrates(wanted)))
		is(t, "nothing is short in the cases", "[] 0", two(impl.ShortIn(one.cases, one.order)))
		crates, _ := impl.FewestOpen(one.list, one.order)
		left, taken, code := impl.TakeOut(one.list, one.order, crates)
		is(t, "as taken out", show(one.left, bottlesOf(one.cases...), 0), left, taken, code)
		is(t, "as one of several", show(one.left, []int64{0}, 0), three(impl.FillSeveral(one.list, [][]impl.Want{one.order})))
		if both := slices.Concat(one.left, one.cases); len(both) <= impl.MaxStack {
			is(t, "packed", two(impl.PackStack(one.list)), two(impl.PackStack(both)))
		}
	}
}

// P20: hands and swaps put a crate into the same order, and no hand moves fewer
// bottles than are swapped.
func TestCratesByHandAndBySwaps(t *testing.T) {
	byHand, bySwaps := 0, 0
	for _, one := range filledOrders(t) {
		for _, c := range slices.Concat(one.left, one.cases) {
			c, _ = impl.TurnCrate(c)
			sorted, _ := impl.SortCrate(c)
			level, _ := impl.LevelCrate(c)
			for _, to := range []impl.Crate{sorted, level} {
				is(t, "the same bottles", "true 0", two(impl.SameBottles(c, to)))
				moves, wrong := impl.MovesFor(c, to)
				if wrong == impl.OK && len(moves) <= impl.MaxSwaps {
					byHand++
					is(t, "by hand", show(to, 0), two(impl.MoveAll(c, moves)))
					// A move swaps a bottle with nothing.
					is(t, "moves as swaps", "true 0", two(impl.CheckSwaps(c, to, moves)))
					read, _ := impl.ReadSwaps(impl.SwapsText(moves))
					is(t, "moves as they are read", show(moves), read)
				}
				swaps, far := impl.SwapsFor(c, to)
				if far == impl.OK {
					bySwaps++
					is(t, "by swaps", show(to, 0), two(impl.SwapAll(c, swaps)))
					is(t, "as few as can be", show(len(swaps), 0), two(impl.LeastSwaps(c, to)))
				}
				if wrong == impl.OK && far == impl.OK && len(swaps) > len(moves) {
					t.Errorf("%v: %v are more than %v", c, swaps, moves)
				}
			}
		}
	}
	if byHand < 500 || bySwaps < 500 {
		t.Errorf("%d are put into order by hand, %d by swaps", byHand, bySwaps)
	}
}

// bottlesOfCounts returns each bottle of some crates once, at most so many.
func bottlesOfCounts(list []impl.Crate, most int) []impl.Bottle {
	var bottles []impl.Bottle
	for _, one := range countsOf(list) {
		bottles = append(bottles, one.Bottle)
	}
	return bottles[:min(most, len(bottles))]
}

// P20: bottles of the cases are tasted blindly, and revealed in the best order.
func TestBottlesTastedBlindly(t *testing.T) {
	next := numberMaker(83)
	tasted := 0
	for round, one := range filledOrders(t) {
		bottles := bottlesOfCounts(one.cases, impl.MaxSamples)
		if len(bottles) == 0 {
			continue
		}
		tasted++
		samples := int64(len(bottles))
		numbers, code := impl.BlindNumbers(samples, 7, int64(next(900)))
		is(t, "numbers", "0", code)
		m := impl.Marks{}
		for range round % 6 {
			m = append(m, randomMarks(next, samples, 1+round%20))
		}
		best, agreement, code := impl.BestOrder(samples, m)
		is(t, "best", "true 0", impl.IsOrder(samples, best), code)
		var blind []int64
		for _, sample := range best {
			blind = append(blind, numbers[sample])
		}
		revealed, code := impl.RevealOrder(numbers, blind, bottles)
		for place, sample := range best {
			is(t, "in the best order", show(bottles[sample], 0), revealed[place], code)
		}
		is(t, "the same bottles", show(sortedOf(bottles)), sortedOf(revealed))
		if winner, code := impl.WinnerOf(samples, m); code == impl.OK {
			is(t, "the winner", show(bottles[winner]), revealed[0])
		}
		// Whatever comes first when they are tasted agrees no more.
		servings, _ := impl.FollowOrders(samples)
		for _, order := range servings {
			other, _ := impl.AgreementOf(samples, m, order)
			pairs := samples * (samples - 1) / 2 * int64(len(m))
			if other > agreement || agreement > pairs {
				t.Errorf("%v agrees with %d marks, the best order with %d of %d", order, other, agreement, pairs)
			}
		}
		for _, b := range revealed {
			if number, _ := impl.CountOf(one.list, b); number == 0 {
				t.Errorf("%v is revealed, but was not there", b)
			}
		}
	}
	if tasted < 100 {
		t.Errorf("%d orders are tasted", tasted)
	}
}

// P20: racks, deposits and orders count the same bottles.
func TestBottlesStoredAndPaid(t *testing.T) {
	for _, one := range filledOrders(t) {
		there, left := int64(len(bottlesOf(one.list...))), int64(len(bottlesOf(one.left...)))
		wanted, _ := impl.WantedIn(one.order)
		had := []impl.Holding{{Full: there}, {}}
		var entries []impl.Entry
		if wanted > 0 {
			entries = []impl.Entry{{To: 1, What: impl.WhFull, Number: int16(wanted)}}
		}
		has, code := impl.ReplayLedger(impl.Prices{Bottle: 8}, had, entries)
		is(t, "paid", show([]impl.Holding{{Full: left, Money: 8 * wanted}, {Full: wanted, Money: -8 * wanted}}, 0), has, code)
		bottles := bottlesOf(one.cases...)
		bottles = bottles[:min(len(bottles), 20)]
		var list []impl.Stored
		for day, b := range bottles {
			list = append(list, impl.Stored{Bottle: b, Day: int16(day)})
		}
		r, _, code := impl.StoreAll(make(impl.Rack, impl.MaxLanes), list)
		is(t, "stored", show(len(bottles), 0), storedNumber(r), code)
		r, taken, _, code := impl.TakeEach(r, bottles, 0)
		is(t, "taken, the oldest first", show(list, 0), taken, code)
		is(t, "nothing left", "0", storedNumber(r))
	}
}

func storedNumber(r impl.Rack) int64 {
	number, _ := impl.StoredIn(r)
	return number
}

// P20: one cellar, from an order to the bottle that is liked best.
func TestOneCellar(t *testing.T) {
	a, b, c := bottle(1, 2001), bottle(2, 1999), bottle(3, 1999)
	list := []impl.Crate{{c, b, a, a}, {4: a, 7: c}, {11: b}}
	some := order(t, "1:2001x2 2:1999x1 3:1999x1")
	left, cases, code := impl.FillOrder(list, some)
	is(t, "left", show([]impl.Crate{{}, {4: a, 7: c}, {11: b}}, []impl.Crate{{a, a, b, c}}, 0), left, cases, code)
	mixed := impl.Crate{c, b, a, a}
	moves, code := impl.MovesFor(mixed, cases[0])
	is(t, "moves", "0-4 2-0 1-2 3-1 4-3 0", impl.SwapsText(moves), code)
	swaps, code := impl.SwapsFor(mixed, cases[0])
	is(t, "swaps", "0-3 1-2 0", impl.SwapsText(swaps), code)
	is(t, "both", show(cases[0], 0, cases[0], 0), two(impl.MoveAll(mixed, moves)), two(impl.SwapAll(mixed, swaps)))
	bottles := bottlesOfCounts(cases, impl.MaxSamples)
	is(t, "samples", show([]impl.Bottle{a, b, c}), bottles)
	numbers, _ := impl.BlindNumbers(3, 7, 50)
	m, code := impl.ReadMarks(3, "9 5 12\n3 7 7\n8 8 9\n")
	best, agreement, _ := impl.BestOrder(3, m)
	is(t, "best", "[2 0 1] 6 0", best, agreement, code)
	is(t, "winner", "2 0", two(impl.WinnerOf(3, m)))
	is(t, "revealed", show([]impl.Bottle{c, a, b}, 0), two(impl.RevealOrder(numbers, []int64{164, 150, 157}, bottles)))
}
