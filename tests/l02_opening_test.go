package tests

import (
	"math"
	"slices"
	"testing"

	"loop.example/g01353/impl"
)

func TestLackBehindAndCheckOpen(t *testing.T) {
	for i, one := range sampleFillings() {
		var crates []int64
		for j := range one.list {
			if (i+j)%3 != 0 {
				crates = append(crates, int64(len(one.list)-1-j), int64(len(one.list)-1-j))
			}
		}
		lack := lackOf(one.order, cratesAt(one.list, crates)...)
		is(t, "lack", show(lack, 0), two(impl.LackBehind(one.list, one.order, crates)))
		is(t, "open", show(len(lack) == 0, 0), two(impl.CheckOpen(one.list, one.order, crates)))
	}
	list, some := orderStack(), order(t, "1:2001x4 3:1999x1")
	is(t, "no crates", show(some, 0), two(impl.LackBehind(list, some, nil)))
	is(t, "told twice", "[{{1 2001} 1} {{3 1999} 1}] 0", two(impl.LackBehind(list, some, []int64{0, 0, 0})))
	is(t, "both", "[] 0", two(impl.LackBehind(list, some, []int64{1, 0, 1})))
	is(t, "check twice", "false 0", two(impl.CheckOpen(list, some, []int64{0, 0})))
	is(t, "check both", "true 0", two(impl.CheckOpen(list, some, []int64{1, 0})))
	is(t, "no wants", "true 0", two(impl.CheckOpen(list, nil, nil)))
	is(t, "many times", "[{{1 2001} 2}] 0", two(impl.LackBehind(list, some, slices.Repeat([]int64{1}, 900000))))
}

func TestIndicesOutOfRange(t *testing.T) {
	list, some := orderStack(), order(t, "1:2001x6")
	for _, index := range []int64{-1, 2, 12, 256, 1 << 32, math.MinInt64, math.MaxInt64} {
		for _, crates := range [][]int64{{index}, {0, index}, {index, 1}, {0, 0, 1, 1, index}} {
			is(t, "lack", "[] 2", two(impl.LackBehind(list, some, crates)))
			is(t, "check", "false 2", two(impl.CheckOpen(list, some, crates)))
			is(t, "take ahead of state", "[] [] 2", three(impl.TakeOut(list, some, crates)))
			is(t, "lack invalid", "[] 1", two(impl.LackBehind(list, []impl.Want{want(1, 2001, 0)}, crates)))
			is(t, "check invalid", "false 1", two(impl.CheckOpen(invalidCrates()[:1], some, crates)))
			is(t, "take invalid", "[] [] 1", three(impl.TakeOut(list, []impl.Want{want(1, 2001, 145)}, crates)))
		}
	}
	is(t, "no crate at all", "[] 2", two(impl.LackBehind(nil, nil, []int64{0})))
	is(t, "nothing wanted", "[] [] 2", three(impl.TakeOut(list, nil, []int64{2})))
}

// indicesIn returns the indices of a set, ascending.
func indicesIn(set int) []int64 {
	var list []int64
	for _, i := range placesIn(set) {
		list = append(list, int64(i))
	}
	return list
}

// fewestOf looks at all sets of crates.
func fewestOf(list []impl.Crate, order []impl.Want) ([]int64, bool) {
	numbers := make([][]int, len(order))
	for i, w := range order {
		for _, c := range list {
			numbers[i] = append(numbers[i], numberOf(w.Bottle, c))
		}
	}
	var best []int64
	found := false
	for set := range 1 << len(list) {
		crates := indicesIn(set)
		fills := true
		for i, w := range order {
			number := 0
			for _, crate := range crates {
				number += numbers[i][crate]
			}
			fills = fills && number >= int(w.Number)
		}
		fewer := len(crates) < len(best) || len(crates) == len(best) && slices.Compare(crates, best) < 0
		if fills && (!found || fewer) {
			best, found = crates, true
		}
	}
	return best, found
}

// P5: no order is filled out of fewer crates than told, and of several such
// lists the one that comes first is told.
func TestFewestOpen(t *testing.T) {
	for _, one := range sampleFillings() {
		crates, found := fewestOf(one.list, one.order)
		got, code := impl.FewestOpen(one.list, one.order)
		if !found {
			is(t, "not found", "[] 6", got, code)
			continue
		}
		is(t, "fewest", show(crates, 0), got, code)
		is(t, "check", "true 0", two(impl.CheckOpen(one.list, one.order, got)))
	}
}

func TestFewestOpenChoices(t *testing.T) {
	four := order(t, "1:1999x1 2:1999x1 3:1999x1 4:1999x1")
	two12 := []impl.Crate{crateOf(1, 2), crateOf(1, 3), crateOf(2, 4), crateOf(3, 4)}
	is(t, "first list, not least set", "[0 3] 0", two(impl.FewestOpen(two12, four)))
	is(t, "first of alike ones", "[0] 0", two(impl.FewestOpen([]impl.Crate{crateOf(1), crateOf(1)}, order(t, "1:1999x1"))))
	is(t, "alike behind", "[1 2] 0", two(impl.FewestOpen([]impl.Crate{{}, crateOf(1), crateOf(1), crateOf(1)}, order(t, "1:1999x2"))))
	is(t, "fewer ahead of first", "[2] 0", two(impl.FewestOpen([]impl.Crate{crateOf(1), crateOf(2), crateOf(1, 2)}, order(t, "1:1999x1 2:1999x1"))))
	many := slices.Repeat([]impl.Crate{crateOf(1)}, 12)
	is(t, "all", "[0 1 2 3 4 5 6 7 8 9 10 11] 0", two(impl.FewestOpen(many, order(t, "1:1999x12"))))
	is(t, "too many", "[] 6", two(impl.FewestOpen(many, order(t, "1:1999x13"))))
	is(t, "no wants", "[] 0", two(impl.FewestOpen(many, nil)))
	is(t, "nothing of none", "[] 0", two(impl.FewestOpen(nil, nil)))
	is(t, "something of none", "[] 6", two(impl.FewestOpen(nil, order(t, "1:1999x1"))))
}

// greedyOf opens crates as the document tells, counting anew each time.
func greedyOf(list []impl.Crate, order []impl.Want) []int64 {
	var open []int64
	for {
		lack := lackOf(order, cratesAt(list, open)...)
		if len(lack) == 0 {
			return open
		}
		best, most := -1, 0
		for i, c := range list {
			useful, _ := impl.UsefulIn(c, lack)
			if !slices.Contains(open, int64(i)) && int(useful) > most {
				best, most = i, int(useful)
			}
		}
		open = append(open, int64(best))
	}
}

func TestGreedyOpen(t *testing.T) {
	for _, one := range sampleFillings() {
		got, code := impl.GreedyOpen(one.list, one.order)
		if len(lackOf(one.order, one.list...)) > 0 {
			is(t, "not found", "[] 6", got, code)
			continue
		}
		is(t, "greedy", show(greedyOf(one.list, one.order), 0), got, code)
		is(t, "check", "true 0", two(impl.CheckOpen(one.list, one.order, got)))
		fewest, _ := impl.FewestOpen(one.list, one.order)
		if len(got) < len(fewest) {
			t.Errorf("%v is greedily filled out of %v, which are fewer than %v", one.order, got, fewest)
		}
	}
}

func TestGreedyOpenChoices(t *testing.T) {
	six := order(t, "1:1999x1 2:1999x1 3:1999x1 4:1999x1 5:1999x1 6:1999x1")
	crates := []impl.Crate{crateOf(1, 3, 5), crateOf(1, 2, 3, 4), crateOf(2, 4, 6)}
	is(t, "as opened, not the fewest", "[1 0 2] 0", two(impl.GreedyOpen(crates, six)))
	is(t, "the fewest", "[0 2] 0", two(impl.FewestOpen(crates, six)))
	is(t, "least index", "[1 2] 0", two(impl.GreedyOpen([]impl.Crate{{}, crateOf(1), crateOf(1), crateOf(1)}, order(t, "1:1999x2"))))
	is(t, "none is opened twice", "[0 1] 0", two(impl.GreedyOpen([]impl.Crate{crateOf(1, 1, 1), crateOf(1, 1)}, order(t, "1:1999x4"))))
	lacking := []impl.Crate{crateOf(1, 1, 1), crateOf(1, 1, 1), crateOf(2)}
	is(t, "useful for what is lacking", "[0 2] 0", two(impl.GreedyOpen(lacking, order(t, "1:1999x3 2:1999x1"))))
	capped := []impl.Crate{fullOf(bottle(1, 1999)), crateOf(1, 2, 2)}
	is(t, "no more than wanted", "[1 0] 0", two(impl.GreedyOpen(capped, order(t, "1:1999x2 2:1999x2"))))
	is(t, "no wants", "[] 0", two(impl.GreedyOpen(crates, nil)))
	is(t, "nothing of none", "[] 0", two(impl.GreedyOpen(nil, nil)))
	is(t, "something of none", "[] 6", two(impl.GreedyOpen(nil, six)))
	is(t, "one is missing", "[] 6", two(impl.GreedyOpen(crates[:2], six)))
}

func TestOpenBound(t *testing.T) {
	for _, one := range sampleFillings() {
		bound, code := impl.OpenBound(one.list, one.order)
		fewest, fewestCode := impl.FewestOpen(one.list, one.order)
		is(t, "code", show(fewestCode), code)
		if code != impl.OK {
			is(t, "zero", "0", bound)
			continue
		}
		greatest := 0
		for _, w := range one.order {
			alone, _ := fewestOf(one.list, []impl.Want{w})
			greatest = max(greatest, len(alone))
		}
		is(t, "bound", show(greatest), bound)
		if int(bound) > len(fewest) {
			t.Errorf("%v is filled out of %v, but the bound is %d", one.order, fewest, bound)
		}
	}
	is(t, "less than fewest", "1 0", two(impl.OpenBound([]impl.Crate{crateOf(1), crateOf(2)}, order(t, "1:1999x1 2:1999x1"))))
	fuller := []impl.Crate{crateOf(1), crateOf(1, 1, 1), crateOf(1, 1), crateOf(2)}
	is(t, "the fullest ones", "2 0", two(impl.OpenBound(fuller, order(t, "1:1999x5 2:1999x1"))))
	is(t, "exactly", "3 0", two(impl.OpenBound(fuller, order(t, "1:1999x6 2:1999x1"))))
	is(t, "later want not found", "0 6", two(impl.OpenBound(fuller, order(t, "1:1999x6 2:1999x2"))))
	is(t, "no wants", "0 0", two(impl.OpenBound(fuller, nil)))
	is(t, "nothing of none", "0 0", two(impl.OpenBound(nil, nil)))
	is(t, "something of none", "0 6", two(impl.OpenBound(nil, order(t, "1:1999x1"))))
}

// takenOf takes single bottles out of crates, as the document tells.
func takenOf(list []impl.Crate, order []impl.Want, crates []int64) ([]impl.Crate, []impl.Bottle) {
	left := slices.Clone(list)
	var taken []impl.Bottle
	for _, b := range bottlesWanted(order) {
		for _, crate := range crates {
			if place := slices.Index(left[crate][:], b); place >= 0 {
				left[crate][place] = impl.Bottle{}
				taken = append(taken, b)
				break
			}
		}
	}
	return left, taken
}

// P5: what is taken out is what is wanted.
func TestTakeOut(t *testing.T) {
	for i, one := range sampleFillings() {
		var crates []int64
		for j := range one.list {
			crates = append(crates, int64((i+j*5)%len(one.list)))
		}
		left, taken, code := impl.TakeOut(one.list, one.order, crates)
		if fills, _ := impl.CheckOpen(one.list, one.order, crates); !fills {
			is(t, "state", "[] [] 4", left, taken, code)
			continue
		}
		wantLeft, wantTaken := takenOf(one.list, one.order, crates)
		is(t, "taken", show(wantLeft, wantTaken, 0), left, taken, code)
		is(t, "wanted", show(bottlesWanted(one.order)), taken)
		is(t, "kept", show(sortedOf(bottlesOf(one.list...))), sortedOf(append(bottlesOf(left...), taken...)))
	}
}

func TestTakeOutChoices(t *testing.T) {
	list := []impl.Crate{crateOf(2, 1, 1, 3), crateOf(1, 2, 1, 1), crateOf(1)}
	some := order(t, "1:1999x3 2:1999x1")
	take := func(crates ...int64) string { return three(impl.TakeOut(list, some, crates)) }
	took := func(left ...impl.Crate) string { return show(left, bottlesWanted(some), 0) }
	is(t, "first places", took(crateOf(0, 0, 0, 3), crateOf(0, 2, 1, 1), list[2]), take(0, 1))
	is(t, "as told", took(list[0], impl.Crate{}, list[2]), take(1, 0))
	is(t, "not ascending", took(crateOf(0, 0, 0, 3), list[1], impl.Crate{}), take(2, 0, 1))
	is(t, "when first told", take(0, 1), take(0, 1, 0, 2, 1))
	is(t, "twice does not count", take(1, 0), take(1, 1, 0))
	is(t, "state", "[] [] 4", take(0, 0, 0))
	is(t, "no wanted crate", "[] [] 4", take(2))
	is(t, "no crates", "[] [] 4", take())
	is(t, "no wants", show(list, []impl.Bottle{}, 0), three(impl.TakeOut(list, nil, nil)))
	is(t, "nothing of none", "[] [] 0", three(impl.TakeOut(nil, nil, nil)))
	is(t, "many times", take(1, 0), take(append(slices.Repeat([]int64{1}, 900000), 0)...))
}

func TestCasesFor(t *testing.T) {
	for _, order := range sampleOrders() {
		cases, code := impl.CasesFor(order)
		bottles := bottlesWanted(order)
		is(t, "bottles", show(bottles, 0), bottlesOf(cases...), code)
		is(t, "crates", show((len(bottles)+11)/12), len(cases))
		for i, b := range bottles {
			is(t, "places from 0 on", show(b), cases[i/12][i%12])
		}
	}
	is(t, "no wants", "[] 0", two(impl.CasesFor(nil)))
	is(t, "exactly full", show([]impl.Crate{fullOf(bottle(1, 2001))}, 0), two(impl.CasesFor(order(t, "1:2001x12"))))
	cases, code := impl.CasesFor(longOrder())
	is(t, "more than a stack", "96 0", len(cases), code)
	mixed := []impl.Crate{fullOf(bottle(1, 1999)), crateOf(1, 2)}
	is(t, "want by want", show(mixed, 0), two(impl.CasesFor(order(t, "1:1999x13 2:1999x1"))))
}

// P5: an order is taken out of the fewest crates, and packed as it is wanted.
func TestFillOrder(t *testing.T) {
	for _, one := range sampleFillings() {
		left, cases, code := impl.FillOrder(one.list, one.order)
		crates, found := fewestOf(one.list, one.order)
		if !found {
			is(t, "not found", "[] [] 6", left, cases, code)
			continue
		}
		wantLeft, _ := takenOf(one.list, one.order, crates)
		wantCases, _ := impl.CasesFor(one.order)
		is(t, "filled", show(wantLeft, wantCases, 0), left, cases, code)
		is(t, "kept", show(sortedOf(bottlesOf(one.list...))), sortedOf(append(bottlesOf(left...), bottlesOf(cases...)...)))
	}
	is(t, "no wants", show(orderStack(), []impl.Crate{}, 0), three(impl.FillOrder(orderStack(), nil)))
	is(t, "nothing of none", "[] [] 0", three(impl.FillOrder(nil, nil)))
	is(t, "something of none", "[] [] 6", three(impl.FillOrder(nil, order(t, "1:1999x1"))))
}

func TestFillSeveral(t *testing.T) {
	samples := sampleFillings()
	for i, one := range samples {
		var orders [][]impl.Want
		for j := range i % 21 {
			orders = append(orders, samples[(i+j*j)%len(samples)].order)
		}
		left := slices.Clone(one.list)
		var filled []int64
		for j, order := range orders {
			if behind, _, code := impl.FillOrder(left, order); code == impl.OK {
				left, filled = behind, append(filled, int64(j))
			}
		}
		is(t, "filled", show(left, filled, 0), three(impl.FillSeveral(one.list, orders)))
	}
}

func TestFillSeveralEdges(t *testing.T) {
	list := orderStack()
	one, three1, five := order(t, "3:1999x1"), order(t, "1:2001x3"), order(t, "1:2001x5")
	only := func(list []impl.Crate, filled []int64) string { return show(list, filled, 0) }
	is(t, "no orders", only(list, nil), three(impl.FillSeveral(list, nil)))
	is(t, "no wants", only(list, []int64{0, 1}), three(impl.FillSeveral(list, [][]impl.Want{nil, {}})))
	is(t, "one after the other", only([]impl.Crate{{}, {0: bottle(1, 2001), 2: bottle(1, 2001)}}, []int64{0, 1}),
		three(impl.FillSeveral(list, [][]impl.Want{three1, one, five, one, three1})))
	is(t, "the first one takes all", only([]impl.Crate{{}, {1: bottle(3, 1999)}}, []int64{0}),
		three(impl.FillSeveral(list, [][]impl.Want{five, three1})))
	is(t, "left out ahead", only([]impl.Crate{{}, list[1]}, []int64{1}),
		three(impl.FillSeveral(list, [][]impl.Want{order(t, "1:2001x6"), three1})))
	is(t, "20 orders", only(list, []int64{0, 1, 2, 3, 4, 5, 6, 7, 8, 9, 10, 11, 12, 13, 14, 15, 16, 17, 18, 19}),
		three(impl.FillSeveral(list, make([][]impl.Want, 20))))
	is(t, "21 orders", "[] [] 3", three(impl.FillSeveral(list, make([][]impl.Want, 21))))
	is(t, "many orders", "[] [] 3", three(impl.FillSeveral(list, make([][]impl.Want, 900000))))
	bad := append(make([][]impl.Want, 30), []impl.Want{want(1, 2001, 0)})
	is(t, "invalid ahead of limit", "[] [] 1", three(impl.FillSeveral(list, bad)))
	is(t, "invalid stack", "[] [] 1", three(impl.FillSeveral(make([]impl.Crate, 13), make([][]impl.Want, 21))))
	is(t, "invalid last", "[] [] 1", three(impl.FillSeveral(list, [][]impl.Want{one, {want(21, 1999, 1)}})))
}
