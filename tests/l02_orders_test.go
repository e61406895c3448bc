package tests

import (
	"math"
	"testing"

	"loop.example/g01353/impl"
)

func TestOrderExample(t *testing.T) {
	list := orderStack()
	first := order(t, "1:2001x2 3:1999x1")
	is(t, "first", show([]impl.Want{want(1, 2001, 2), want(3, 1999, 1)}), first)
	is(t, "crate 1 alone", "[1] 0", two(impl.FewestOpen(list, first)))
	is(t, "both", "[0 1] 0", two(impl.FewestOpen(list, order(t, "1:2001x4"))))
	is(t, "short", "[{{1 2001} 1}] 0", two(impl.ShortIn(list, order(t, "1:2001x6"))))
	is(t, "useful", "2 0", two(impl.UsefulIn(list[0], first)))
	is(t, "split", "[[{{1 2001} 2}] [{{3 1999} 1}]] 0", two(impl.SplitOrder(first, 2)))
}

func TestOrderLimits(t *testing.T) {
	is(t, "limits", "8 144", impl.MaxWants, impl.MaxWanted)
}

func TestValidOrder(t *testing.T) {
	for _, order := range sampleOrders() {
		is(t, "valid", "true", impl.ValidOrder(order))
	}
	for _, order := range invalidOrders() {
		is(t, "invalid", "false", impl.ValidOrder(order))
	}
	is(t, "no wants", "true true", impl.ValidOrder(nil), impl.ValidOrder([]impl.Want{}))
	for number := int16(-2); number <= 150; number++ {
		is(t, "number", show(number >= 1 && number <= 144), impl.ValidOrder([]impl.Want{want(1, 2001, number)}))
	}
	is(t, "by year", "true", impl.ValidOrder([]impl.Want{want(1, 2000, 1), want(1, 2001, 1), want(2, 1900, 1)}))
}

func TestSameOrder(t *testing.T) {
	a := []impl.Want{want(1, 2001, 2), want(3, 1999, 1)}
	is(t, "nil and empty", "true true", impl.SameOrder(nil, []impl.Want{}), impl.SameOrder([]impl.Want{}, nil))
	is(t, "equal", "true", impl.SameOrder(a, []impl.Want{want(1, 2001, 2), want(3, 1999, 1)}))
	is(t, "number", "false", impl.SameOrder(a, []impl.Want{want(1, 2001, 2), want(3, 1999, 2)}))
	is(t, "bottle", "false", impl.SameOrder(a, []impl.Want{want(1, 2000, 2), want(3, 1999, 1)}))
	is(t, "sequence", "false", impl.SameOrder(a, []impl.Want{want(3, 1999, 1), want(1, 2001, 2)}))
	is(t, "beginning", "false false", impl.SameOrder(a, a[:1]), impl.SameOrder(a[:1], a))
	orders := invalidOrders()
	var shown []string
	for _, order := range orders {
		shown = append(shown, show(order))
	}
	for i := range orders {
		for j := range orders {
			is(t, "invalid", show(shown[i] == shown[j]), impl.SameOrder(orders[i], orders[j]))
		}
	}
}

func TestWantedIn(t *testing.T) {
	is(t, "none", "0 0", two(impl.WantedIn(nil)))
	is(t, "most", "1152 0", two(impl.WantedIn(longOrder())))
	for _, order := range sampleOrders() {
		is(t, "wanted", show(len(bottlesWanted(order)), 0), two(impl.WantedIn(order)))
	}
}

// P4: joined orders want what both want.
func TestJoinOrders(t *testing.T) {
	orders := sampleOrders()
	joined := 0
	for i, a := range orders {
		b := orders[(i*7+3)%len(orders)]
		both, code := impl.JoinOrders(a, b)
		other, otherCode := impl.JoinOrders(b, a)
		is(t, "the other way", show(both, code), other, otherCode)
		counts := map[impl.Bottle]int{}
		fits := true
		for _, w := range append(append([]impl.Want{}, a...), b...) {
			counts[w.Bottle] += int(w.Number)
			fits = fits && counts[w.Bottle] <= 144
		}
		if !fits || len(counts) > 8 {
			is(t, "limit", "[] 3", both, code)
			continue
		}
		joined++
		is(t, "joined", show(sortedOf(bottlesWanted(a, b)), 0), bottlesWanted(both), code)
		is(t, "valid", "true", impl.ValidOrder(both))
	}
	if joined < 100 || joined > len(orders)-100 {
		t.Errorf("%d of %d pairs can be joined", joined, len(orders))
	}
}

func TestJoinOrdersEdges(t *testing.T) {
	join := func(a, b string) string { return two(impl.JoinOrders(order(t, a), order(t, b))) }
	is(t, "none", "[] 0", join("", ""))
	is(t, "one is empty", "[{{1 2001} 2}] 0", join("", "1:2001x2"))
	is(t, "exactly 144", "[{{1 2001} 144}] 0", join("1:2001x100", "1:2001x44"))
	is(t, "145", "[] 3", join("1:2001x100", "1:2001x45"))
	is(t, "288", "[] 3", join("1:2001x144", "1:2001x144"))
	is(t, "between", "[{{1 1999} 1} {{1 2001} 5} {{2 1900} 4}] 0", join("1:2001x2 2:1900x4", "1:1999x1 1:2001x3"))
	long := longOrder()
	is(t, "8 wants", show(long, 0), two(impl.JoinOrders(long[:3], long[3:])))
	is(t, "9 wants", "[] 3", two(impl.JoinOrders(long, []impl.Want{want(20, 1999, 1)})))
	long[7].Number = 100
	is(t, "8 again", show(append(append([]impl.Want{}, long[:7]...), want(8, 1999, 144)), 0),
		two(impl.JoinOrders(long, []impl.Want{want(8, 1999, 44)})))
	is(t, "invalid first", "[] 1", two(impl.JoinOrders(long, append(longOrder(), want(20, 1999, 1)))))
}

// splitOf puts the bottles of an order into new orders, one by one.
func splitOf(order []impl.Want, most int) [][]impl.Want {
	var parts [][]impl.Want
	for i, b := range bottlesWanted(order) {
		if i%most == 0 {
			parts = append(parts, nil)
		}
		part := &parts[len(parts)-1]
		if last := len(*part) - 1; last >= 0 && (*part)[last].Bottle == b {
			(*part)[last].Number++
		} else {
			*part = append(*part, impl.Want{Bottle: b, Number: 1})
		}
	}
	return parts
}

// P4: split orders want the same.
func TestSplitOrder(t *testing.T) {
	for i, order := range sampleOrders() {
		for _, most := range []int{1, 2, 3, 5, 12, 143, 144, 1 + i%144} {
			parts, code := impl.SplitOrder(order, int64(most))
			is(t, "split", show(splitOf(order, most), 0), parts, code)
			is(t, "same", show(bottlesWanted(order)), bottlesWanted(parts...))
			for j, part := range parts {
				number, code := impl.WantedIn(part)
				if code != impl.OK || number > int64(most) || number < 1 || j < len(parts)-1 && number < int64(most) {
					t.Errorf("part %d of %v by %d wants %d, with the code %d", j, order, most, number, code)
				}
			}
		}
	}
}

func TestSplitOrderEdges(t *testing.T) {
	split := func(text string, most int64) string { return two(impl.SplitOrder(order(t, text), most)) }
	is(t, "no wants", "[] 0", split("", 1))
	is(t, "exactly filled", "[[{{1 2001} 3}]] 0", split("1:2001x3", 3))
	is(t, "one more", "[[{{1 2001} 3}] [{{1 2001} 1}]] 0", split("1:2001x4", 3))
	is(t, "across", "[[{{1 2001} 2} {{3 1999} 1}] [{{3 1999} 3}] [{{3 1999} 1} {{4 1999} 1}]] 0", split("1:2001x2 3:1999x5 4:1999x1", 3))
	is(t, "a gross", "[[{{1 2001} 144}]] 0", split("1:2001x144", 144))
	parts, code := impl.SplitOrder(longOrder(), 1)
	is(t, "single ones", "1152 0", len(parts), code)
	for _, most := range []int64{0, -1, 145, 1 << 16, 1<<16 + 1, 1 << 32, math.MinInt64, math.MaxInt64} {
		is(t, "range", "[] 2", split("1:2001x3", most))
		is(t, "range of none", "[] 2", split("", most))
		is(t, "invalid first", "[] 1", two(impl.SplitOrder([]impl.Want{want(1, 2001, 0)}, most)))
	}
}

func TestShortInAndCanFill(t *testing.T) {
	for _, one := range sampleFillings() {
		lack := lackOf(one.order, one.list...)
		is(t, "short", show(lack, 0), two(impl.ShortIn(one.list, one.order)))
		is(t, "can fill", show(len(lack) == 0, 0), two(impl.CanFill(one.list, one.order)))
	}
	is(t, "nothing of none", "[] 0", two(impl.ShortIn(nil, nil)))
	is(t, "none", "[{{1 2001} 3}] 0", two(impl.ShortIn(nil, order(t, "1:2001x3"))))
	is(t, "no wants", "true 0", two(impl.CanFill(nil, nil)))
	many := make([]impl.Crate, 12)
	for i := range many {
		many[i] = fullOf(bottle(1, 2001))
	}
	is(t, "exactly", "true 0", two(impl.CanFill(many, order(t, "1:2001x144"))))
	many[11][11] = impl.Bottle{}
	is(t, "one is short", "[{{1 2001} 1}] 0", two(impl.ShortIn(many, order(t, "1:2001x144"))))
	is(t, "cannot fill", "false 0", two(impl.CanFill(many, order(t, "1:2001x144"))))
	is(t, "some are enough", "[{{1 2001} 1} {{4 1999} 2}] 0", two(impl.ShortIn(orderStack(), order(t, "1:2001x6 3:1999x1 4:1999x2"))))
}

func TestUsefulIn(t *testing.T) {
	for _, one := range sampleFillings() {
		for _, c := range one.list {
			useful := 0
			for _, w := range one.order {
				useful += min(int(w.Number), numberOf(w.Bottle, c))
			}
			is(t, "useful", show(useful, 0), two(impl.UsefulIn(c, one.order)))
		}
	}
	c := orderStack()[1]
	is(t, "no wants", "0 0", two(impl.UsefulIn(c, nil)))
	is(t, "empty", "0 0", two(impl.UsefulIn(impl.Crate{}, longOrder())))
	is(t, "lesser numbers", "3 0", two(impl.UsefulIn(c, order(t, "1:2001x144 3:1999x1"))))
	is(t, "another year", "0 0", two(impl.UsefulIn(c, order(t, "1:2000x2 3:2000x2"))))
}
