package tests

import (
	"slices"
	"testing"

	"loop.example/g01353/impl"
)

// swapCall is a call of a function of chapter 3, and what it returns if a crate
// that it is given is not valid.
type swapCall struct {
	name    string
	invalid string
	run     func(a, b impl.Crate) string
}

func swapCalls() []swapCall {
	none := show(impl.Crate{})
	list := []impl.Swap{swap(0, 1), swap(1, 2)}
	x := bottle(1, 1999)
	return []swapCall{
		{"SwapPlaces", none + " 1", func(a, _ impl.Crate) string { return two(impl.SwapPlaces(a, swap(0, 1))) }},
		{"SwapAll", none + " 1", func(a, _ impl.Crate) string { return two(impl.SwapAll(a, list)) }},
		{"DifferIn", "[] 1", func(a, b impl.Crate) string { return two(impl.DifferIn(a, b)) }},
		{"SameBottles", "false 1", func(a, b impl.Crate) string { return two(impl.SameBottles(a, b)) }},
		{"LeastSwaps", "0 1", func(a, b impl.Crate) string { return two(impl.LeastSwaps(a, b)) }},
		{"SwapsFor", "[] 1", func(a, b impl.Crate) string { return two(impl.SwapsFor(a, b)) }},
		{"CheckSwaps", "false 1", func(a, b impl.Crate) string { return two(impl.CheckSwaps(a, b, list)) }},
		{"RingsOf", "0 1", func(a, b impl.Crate) string { return two(impl.RingsOf(a, b, []int64{0, 0, 0})) }},
		{"BestRings", "[] 1", func(a, b impl.Crate) string { return two(impl.BestRings(a, b)) }},
		{"MoveBottle", none + " 1", func(a, _ impl.Crate) string { return two(impl.MoveBottle(a, swap(0, 3))) }},
		{"MoveAll", none + " 1", func(a, _ impl.Crate) string { return two(impl.MoveAll(a, []impl.Swap{swap(0, 3), swap(3, 0)})) }},
		{"MoveAll of none", none + " 1", func(a, _ impl.Crate) string { return two(impl.MoveAll(a, nil)) }},
		{"MovesFor", "[] 1", func(a, b impl.Crate) string { return two(impl.MovesFor(a, b)) }},
		{"StrayIn", "0 1", func(a, b impl.Crate) string { return two(impl.StrayIn([]impl.Crate{b, a}, []impl.Bottle{x, x})) }},
		{"StrayIn without labels", "0 1", func(a, b impl.Crate) string { return two(impl.StrayIn([]impl.Crate{b, a}, nil)) }},
		{"BestLabels", "[] 0 1", func(a, b impl.Crate) string { return three(impl.BestLabels([]impl.Crate{b, a})) }},
		{"MostOf", "{0 0} 0 1", func(a, _ impl.Crate) string { return three(impl.MostOf(a)) }},
		{"MixedIn", "0 1", func(a, b impl.Crate) string { return two(impl.MixedIn([]impl.Crate{b, a})) }},
		{"PureStack", "[] 1", func(a, b impl.Crate) string { return two(impl.PureStack([]impl.Crate{b, a})) }},
	}
}

// P1: ErrInvalid comes first, and all other results are zero values then.
func TestInvalidCratesOfSwaps(t *testing.T) {
	a, b := swapExample()
	both := []string{"DifferIn", "SameBottles", "LeastSwaps", "SwapsFor", "CheckSwaps", "RingsOf", "BestRings", "MovesFor", "StrayIn", "BestLabels", "MixedIn", "PureStack"}
	for _, one := range swapCalls() {
		for _, c := range invalidCrates() {
			is(t, one.name, one.invalid, one.run(c, b))
			is(t, one.name+" of two", one.invalid, one.run(c, c))
			if slices.Contains(both, one.name) {
				is(t, one.name+" behind", one.invalid, one.run(a, c))
			}
		}
	}
}

func TestInvalidStacksOfLabels(t *testing.T) {
	for _, list := range [][]impl.Crate{make([]impl.Crate, 13), make([]impl.Crate, 80000), append(make([]impl.Crate, 11), invalidCrates()[1])} {
		is(t, "StrayIn", "0 1", two(impl.StrayIn(list, nil)))
		is(t, "StrayIn with labels", "0 1", two(impl.StrayIn(list, slices.Repeat([]impl.Bottle{bottle(1, 1999)}, len(list)))))
		is(t, "BestLabels", "[] 0 1", three(impl.BestLabels(list)))
		is(t, "MixedIn", "0 1", two(impl.MixedIn(list)))
		is(t, "PureStack", "[] 1", two(impl.PureStack(list)))
	}
}

// P1: results are equal for equal arguments.
func TestEqualResultsOfSwaps(t *testing.T) {
	for _, one := range swapCalls() {
		for _, p := range samplePairs() {
			is(t, one.name, one.run(p.a, p.b), one.run(p.a, p.b))
		}
	}
	a, b := swapExample()
	is(t, "SwapAll", two(impl.SwapAll(a, nil)), two(impl.SwapAll(a, []impl.Swap{})))
	is(t, "CheckSwaps", two(impl.CheckSwaps(a, b, nil)), two(impl.CheckSwaps(a, b, []impl.Swap{})))
	is(t, "MoveAll", two(impl.MoveAll(a, nil)), two(impl.MoveAll(a, []impl.Swap{})))
	is(t, "RingsOf", two(impl.RingsOf(a, a, nil)), two(impl.RingsOf(a, a, []int64{})))
	is(t, "StrayIn", two(impl.StrayIn(nil, nil)), two(impl.StrayIn([]impl.Crate{}, []impl.Bottle{})))
	is(t, "BestLabels", three(impl.BestLabels(nil)), three(impl.BestLabels([]impl.Crate{})))
	is(t, "MixedIn", two(impl.MixedIn(nil)), two(impl.MixedIn([]impl.Crate{})))
	is(t, "PureStack", two(impl.PureStack(nil)), two(impl.PureStack([]impl.Crate{})))
	is(t, "SwapsText", impl.SwapsText(nil), impl.SwapsText([]impl.Swap{}))
}

// P1: arguments are not modified, nor is the unused capacity of a slice.
func TestSwapArgumentsAreKept(t *testing.T) {
	a, b := swapExample()
	list := []impl.Swap{swap(0, 3), swap(1, 0), swap(2, 1), swap(3, 2), swap(9, 9), swap(-1, 99)}
	parts := []int64{2, 2, 2, 7, 8}
	labels := []impl.Bottle{bottle(3, 1999), bottle(2, 1999), bottle(1, 1900), {}}
	crates := []impl.Crate{b, a, crateOf(5, 4), {}, fullOf(bottle(1, 1999))}
	before := show(list, parts, labels, crates)
	for range 2 {
		impl.SwapAll(a, list[:5])
		impl.SwapAll(a, list)
		impl.CheckSwaps(a, b, list[:4])
		impl.MoveAll(a, list[:4])
		impl.MoveAll(a, list)
		impl.SwapsText(list[:4])
		impl.RingsOf(a, b, parts[:3])
		impl.StrayIn(crates[:2], labels[:2])
		impl.BestLabels(crates[:3])
		impl.MixedIn(crates[:3])
		impl.PureStack(crates[:3])
	}
	is(t, "kept", before, show(list, parts, labels, crates))
	for _, stack := range fewCrates() {
		whole := append(slices.Clone(stack), a, impl.Crate{}, b)
		before := slices.Clone(whole)
		impl.BestLabels(whole[:len(stack)])
		impl.PureStack(whole[:len(stack)])
		if !slices.Equal(whole, before) {
			t.Errorf("%v is modified", stack)
		}
	}
}

// P1: a list that has been returned shares no memory with an argument or another one.
func TestSwapResultsAreNew(t *testing.T) {
	a, b := swapExample()
	pure := []impl.Crate{fullOf(bottle(1, 1999)), fullOf(bottle(2, 1999))}
	spoil(t, "DifferIn", func() []int64 { r, _ := impl.DifferIn(a, b); return r })
	spoil(t, "SwapsFor", func() []impl.Swap { r, _ := impl.SwapsFor(a, b); return r })
	spoil(t, "BestRings", func() []int64 { r, _ := impl.BestRings(a, b); return r })
	spoil(t, "MovesFor", func() []impl.Swap { r, _ := impl.MovesFor(a, b); return r })
	spoil(t, "BestLabels", func() []impl.Bottle { r, _, _ := impl.BestLabels([]impl.Crate{a, b}); return r })
	spoil(t, "PureStack", func() []impl.Crate { r, _ := impl.PureStack(pure); return r })
	spoil(t, "ReadSwaps", func() []impl.Swap { r, _ := impl.ReadSwaps("0-1 1-2"); return r })
	is(t, "list", show([]impl.Crate{fullOf(bottle(1, 1999)), fullOf(bottle(2, 1999))}), pure)
}
