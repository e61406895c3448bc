package tests

import (
	"slices"
	"testing"

	"loop.example/g01353/impl"
)

// orderCall is a call of a function of chapter 2, and what it returns if an
// order is not valid; a function for which stack is true looks at crates too.
type orderCall struct {
	name    string
	invalid string
	stack   bool
	run     func(list []impl.Crate, order []impl.Want) string
}

func orderCalls() []orderCall {
	some := []impl.Want{want(1, 2001, 1)}
	return []orderCall{
		{"ValidOrder", "false", false, func(_ []impl.Crate, o []impl.Want) string { return show(impl.ValidOrder(o)) }},
		{"WantedIn", "0 1", false, func(_ []impl.Crate, o []impl.Want) string { return two(impl.WantedIn(o)) }},
		{"JoinOrders", "[] 1", false, func(_ []impl.Crate, o []impl.Want) string { return two(impl.JoinOrders(o, some)) }},
		{"JoinOrders behind", "[] 1", false, func(_ []impl.Crate, o []impl.Want) string { return two(impl.JoinOrders(some, o)) }},
		{"SplitOrder", "[] 1", false, func(_ []impl.Crate, o []impl.Want) string { return two(impl.SplitOrder(o, 5)) }},
		{"CasesFor", "[] 1", false, func(_ []impl.Crate, o []impl.Want) string { return two(impl.CasesFor(o)) }},
		{"OrderText", "", false, func(_ []impl.Crate, o []impl.Want) string { return impl.OrderText(o) }},
		{"ShortIn", "[] 1", true, func(l []impl.Crate, o []impl.Want) string { return two(impl.ShortIn(l, o)) }},
		{"CanFill", "false 1", true, func(l []impl.Crate, o []impl.Want) string { return two(impl.CanFill(l, o)) }},
		{"UsefulIn", "0 1", true, func(l []impl.Crate, o []impl.Want) string {
			return two(impl.UsefulIn(append([]impl.Crate{{}}, l...)[min(2, len(l))], o))
		}},
		{"LackBehind", "[] 1", true, func(l []impl.Crate, o []impl.Want) string { return two(impl.LackBehind(l, o, allOf(l))) }},
		{"CheckOpen", "false 1", true, func(l []impl.Crate, o []impl.Want) string { return two(impl.CheckOpen(l, o, allOf(l))) }},
		{"FewestOpen", "[] 1", true, func(l []impl.Crate, o []impl.Want) string { return two(impl.FewestOpen(l, o)) }},
		{"GreedyOpen", "[] 1", true, func(l []impl.Crate, o []impl.Want) string { return two(impl.GreedyOpen(l, o)) }},
		{"OpenBound", "0 1", true, func(l []impl.Crate, o []impl.Want) string { return two(impl.OpenBound(l, o)) }},
		{"TakeOut", "[] [] 1", true, func(l []impl.Crate, o []impl.Want) string { return three(impl.TakeOut(l, o, allOf(l))) }},
		{"FillOrder", "[] [] 1", true, func(l []impl.Crate, o []impl.Want) string { return three(impl.FillOrder(l, o)) }},
		{"FillSeveral", "[] [] 1", true, func(l []impl.Crate, o []impl.Want) string {
			return three(impl.FillSeveral(l, [][]impl.Want{some, o, o}))
		}},
	}
}

// allOf returns the indices of all crates, from the last one on.
func allOf(list []impl.Crate) []int64 {
	var crates []int64
	for i := range list {
		crates = append(crates, int64(len(list)-1-i))
	}
	return crates
}

// P1: ErrInvalid comes first, and all other results are zero values then.
func TestInvalidOrders(t *testing.T) {
	for _, one := range orderCalls() {
		for _, o := range invalidOrders() {
			is(t, one.name, one.invalid, one.run(orderStack(), o))
			is(t, one.name+" of none", one.invalid, one.run(nil, o))
		}
	}
}

func TestInvalidStacksOfOrders(t *testing.T) {
	some := order(t, "1:2001x1")
	for _, one := range orderCalls() {
		if !one.stack {
			continue
		}
		for _, c := range invalidCrates() {
			is(t, one.name, one.invalid, one.run([]impl.Crate{exampleCrate(), c}, some))
			is(t, one.name+" without wants", one.invalid, one.run([]impl.Crate{exampleCrate(), c}, nil))
		}
		if one.name != "UsefulIn" {
			is(t, one.name+" of 13", one.invalid, one.run(make([]impl.Crate, 13), some))
			is(t, one.name+" of many", one.invalid, one.run(make([]impl.Crate, 80000), nil))
		}
	}
}

// P1: results are equal for equal arguments.
func TestEqualResultsOfOrders(t *testing.T) {
	for _, one := range orderCalls() {
		for _, s := range sampleFillings() {
			is(t, one.name, one.run(s.list, s.order), one.run(slices.Clone(s.list), slices.Clone(s.order)))
		}
		is(t, one.name+" of none", one.run(nil, nil), one.run([]impl.Crate{}, []impl.Want{}))
	}
}

// P1: arguments are not modified, nor is the unused capacity of a slice.
func TestOrdersAreKept(t *testing.T) {
	for _, one := range orderCalls() {
		for _, s := range sampleFillings() {
			crates := append(slices.Clone(s.list), exampleCrate(), impl.Crate{}, exampleCrate())
			wants := append(slices.Clone(s.order), want(1, 1999, 7), impl.Want{}, want(20, 1900, 9))
			before, beforeWants := slices.Clone(crates), slices.Clone(wants)
			one.run(crates[:len(s.list)], wants[:len(s.order)])
			if !slices.Equal(crates, before) || !slices.Equal(wants, beforeWants) {
				t.Errorf("%s modifies its argument", one.name)
			}
		}
	}
}

func TestIndicesAndListsAreKept(t *testing.T) {
	crates := []int64{1, 0, 1, 0, 7, 8}
	some := order(t, "1:2001x2 3:1999x1")
	impl.LackBehind(orderStack(), some, crates[:4])
	impl.CheckOpen(orderStack(), some, crates[:4])
	impl.TakeOut(orderStack(), some, crates[:4])
	is(t, "indices", "[1 0 1 0 7 8]", crates)
	orders := [][]impl.Want{some[:1], some[1:], nil, some}
	impl.FillSeveral(orderStack(), orders[:2])
	impl.JoinOrders(some[:1], some[1:])
	is(t, "orders", show([][]impl.Want{{want(1, 2001, 2)}, {want(3, 1999, 1)}, nil, some}), orders)
	is(t, "order", "1:2001x2 3:1999x1", impl.OrderText(some))
}

// P1: a list that has been returned shares no memory with an argument or another one.
func TestOrderResultsAreNew(t *testing.T) {
	list, some := orderStack(), order(t, "1:2001x2 3:1999x1")
	crates := []int64{1}
	spoil(t, "JoinOrders", func() []impl.Want { r, _ := impl.JoinOrders(some, nil); return r })
	spoil(t, "JoinOrders behind", func() []impl.Want { r, _ := impl.JoinOrders(nil, some); return r })
	spoil(t, "SplitOrder", func() [][]impl.Want { r, _ := impl.SplitOrder(some, 2); return r })
	spoil(t, "ShortIn", func() []impl.Want { r, _ := impl.ShortIn(nil, some); return r })
	spoil(t, "LackBehind", func() []impl.Want { r, _ := impl.LackBehind(list, some, nil); return r })
	spoil(t, "FewestOpen", func() []int64 { r, _ := impl.FewestOpen(list, some); return r })
	spoil(t, "GreedyOpen", func() []int64 { r, _ := impl.GreedyOpen(list, some); return r })
	spoil(t, "TakeOut", func() []impl.Crate { r, _, _ := impl.TakeOut(list, some, crates); return r })
	spoil(t, "TakeOut of none", func() []impl.Crate { r, _, _ := impl.TakeOut(list, nil, nil); return r })
	spoil(t, "TakeOut bottles", func() []impl.Bottle { _, r, _ := impl.TakeOut(list, some, crates); return r })
	spoil(t, "CasesFor", func() []impl.Crate { r, _ := impl.CasesFor(some); return r })
	spoil(t, "FillOrder", func() []impl.Crate { r, _, _ := impl.FillOrder(list, nil); return r })
	spoil(t, "FillOrder cases", func() []impl.Crate { _, r, _ := impl.FillOrder(list, some); return r })
	spoil(t, "FillSeveral", func() []impl.Crate { r, _, _ := impl.FillSeveral(list, nil); return r })
	spoil(t, "FillSeveral filled", func() []int64 { _, r, _ := impl.FillSeveral(list, [][]impl.Want{nil, some}); return r })
	spoil(t, "ReadOrder", func() []impl.Want { r, _ := impl.ReadOrder("1:2001x2 3:1999x1"); return r })
	is(t, "arguments", show(orderStack(), []impl.Want{want(1, 2001, 2), want(3, 1999, 1)}, []int64{1}), list, some, crates)
}

func TestPartsAreNew(t *testing.T) {
	for most := int64(1); most <= 9; most++ {
		some := order(t, "1:2001x4 3:1999x1 4:1999x3")
		wants := splitOf(some, int(most))
		for i := range wants {
			parts, _ := impl.SplitOrder(some, most)
			clear(parts[i][:cap(parts[i])])
			for j := range wants {
				if j != i {
					is(t, "other part", show(wants[j]), parts[j])
				}
			}
			is(t, "order", "1:2001x4 3:1999x1 4:1999x3", impl.OrderText(some))
		}
	}
}
