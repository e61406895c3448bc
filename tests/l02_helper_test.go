package tests

import (
	"slices"
	"testing"

	"loop.example/g01353/impl"
)

func want(kind uint8, year, number int16) impl.Want {
	return impl.Want{Bottle: bottle(kind, year), Number: number}
}

// order returns the order with a text.
func order(t *testing.T, text string) []impl.Want {
	t.Helper()
	list, code := impl.ReadOrder(text)
	if code != impl.OK {
		t.Fatalf("%q is read with %d", text, code)
	}
	return list
}

// crateOf returns a crate with bottles of 1999, of these kinds (0 is none), in
// the places from 0 on.
func crateOf(kinds ...uint8) impl.Crate {
	var c impl.Crate
	for place, kind := range kinds {
		if kind != 0 {
			c[place] = bottle(kind, 1999)
		}
	}
	return c
}

// orderStack returns the crates of the chapter's example.
func orderStack() []impl.Crate {
	a, b := bottle(1, 2001), bottle(3, 1999)
	return []impl.Crate{{a, a, a}, {a, b, a}}
}

// longOrder returns an order that has all that an order can have.
func longOrder() []impl.Want {
	var list []impl.Want
	for kind := range uint8(impl.MaxWants) {
		list = append(list, want(kind+1, 1999, impl.MaxWanted))
	}
	return list
}

func invalidOrders() [][]impl.Want {
	list := [][]impl.Want{
		{want(1, 2001, 0)}, {want(1, 2001, -1)}, {want(1, 2001, 145)}, {want(1, 2001, -32768)}, {want(1, 2001, 32767)},
		{want(1, 2001, 1), want(1, 2001, 1)}, {want(1, 2001, 1), want(1, 2000, 1)}, {want(2, 1999, 1), want(1, 2001, 1)},
		{want(1, 2001, 1), want(3, 1999, 1), want(2, 1999, 1)}, {want(1, 2001, 1), want(2, 2001, 0)},
		append(longOrder(), want(20, 1999, 1)), make([]impl.Want, 1), make([]impl.Want, 300000),
	}
	for _, b := range append(invalidBottles(), impl.Bottle{}) {
		list = append(list, []impl.Want{{Bottle: b, Number: 1}}, []impl.Want{want(1, 1900, 1), {Bottle: b, Number: 1}})
	}
	return list
}

// filling is a stack, and an order that it may fill or not.
type filling struct {
	list  []impl.Crate
	order []impl.Want
}

// sampleFillings returns for stacks of 0 to MaxStack crates orders of all that
// is there, of some of it, and of more than there is.
func sampleFillings() []filling {
	var all []filling
	for i, list := range sampleStacks() {
		counts := countsOf(list)
		whole, some, more := []impl.Want{}, []impl.Want{}, []impl.Want{}
		for j, one := range counts {
			part := int16(one.Number) - int16(one.Number)*int16((i+j)%4)/4
			whole = append(whole, impl.Want{Bottle: one.Bottle, Number: int16(one.Number)})
			some = append(some, impl.Want{Bottle: one.Bottle, Number: max(1, part)})
			more = append(more, impl.Want{Bottle: one.Bottle, Number: min(144, int16(one.Number)+int16((i+j)%3))})
		}
		skip := i % (max(0, len(counts)-8) + 1)
		end := min(skip+8, len(counts))
		all = append(all, filling{list, whole[skip:end:end]}, filling{list, some[skip:end:end]}, filling{list, more[skip:end:end]})
		all = append(all, filling{list, nil}, filling{list, []impl.Want{want(19, 1950, 1)}}, filling{list, longOrder()})
	}
	return all
}

// sampleOrders returns orders of 0 to MaxWants wants.
func sampleOrders() [][]impl.Want {
	orders := [][]impl.Want{nil, longOrder()}
	for _, one := range sampleFillings() {
		orders = append(orders, one.order)
	}
	return orders
}

// numberOf returns how many bottles of one crates have.
func numberOf(b impl.Bottle, list ...impl.Crate) int {
	number := 0
	for _, other := range bottlesOf(list...) {
		if other == b {
			number++
		}
	}
	return number
}

// lackOf returns what is wanted beyond what crates have.
func lackOf(order []impl.Want, list ...impl.Crate) []impl.Want {
	var lack []impl.Want
	for _, w := range order {
		if beyond := int(w.Number) - numberOf(w.Bottle, list...); beyond > 0 {
			lack = append(lack, impl.Want{Bottle: w.Bottle, Number: int16(beyond)})
		}
	}
	return lack
}

// cratesAt returns the crates with some indices, each one once.
func cratesAt(list []impl.Crate, indices []int64) []impl.Crate {
	var some []impl.Crate
	for i, c := range list {
		if slices.Contains(indices, int64(i)) {
			some = append(some, c)
		}
	}
	return some
}

// bottlesWanted returns the bottles of orders, one behind the other.
func bottlesWanted(orders ...[]impl.Want) []impl.Bottle {
	var bottles []impl.Bottle
	for _, order := range orders {
		for _, w := range order {
			bottles = append(bottles, slices.Repeat([]impl.Bottle{w.Bottle}, int(w.Number))...)
		}
	}
	return bottles
}
