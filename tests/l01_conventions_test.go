package tests

import (
	"slices"
	"testing"

	"loop.example/g01353/impl"
)

// call is a call of a function of chapter 1, and what it returns if a crate
// that it is given, or one of its list, is not valid.
type call struct {
	name    string
	invalid string
	run     func(c impl.Crate, list []impl.Crate) string
}

func crateCalls() []call {
	b := bottle(2, 2000)
	noCrate := show(impl.Crate{})
	return []call{
		{"ValidCrate", "false", func(c impl.Crate, _ []impl.Crate) string { return show(impl.ValidCrate(c)) }},
		{"FreePlaces", "[] 1", func(c impl.Crate, _ []impl.Crate) string { return two(impl.FreePlaces(c)) }},
		{"BottlesIn", "[] 1", func(c impl.Crate, _ []impl.Crate) string { return two(impl.BottlesIn(c)) }},
		{"PutBottle", noCrate + " 1", func(c impl.Crate, _ []impl.Crate) string { return two(impl.PutBottle(c, 3, b)) }},
		{"TakeBottle", noCrate + " {0 0} 1", func(c impl.Crate, _ []impl.Crate) string { return three(impl.TakeBottle(c, 3)) }},
		{"AddBottle", noCrate + " 0 1", func(c impl.Crate, _ []impl.Crate) string { return three(impl.AddBottle(c, b)) }},
		{"PlaceOf", "0 1", func(c impl.Crate, _ []impl.Crate) string { return two(impl.PlaceOf(c, b)) }},
		{"IsPure", "false 1", func(c impl.Crate, _ []impl.Crate) string { return two(impl.IsPure(c)) }},
		{"SortCrate", noCrate + " 1", func(c impl.Crate, _ []impl.Crate) string { return two(impl.SortCrate(c)) }},
		{"TurnCrate", noCrate + " 1", func(c impl.Crate, _ []impl.Crate) string { return two(impl.TurnCrate(c)) }},
		{"TipOf", "0 0 1", func(c impl.Crate, _ []impl.Crate) string { return three(impl.TipOf(c)) }},
		{"LevelCrate", noCrate + " 1", func(c impl.Crate, _ []impl.Crate) string { return two(impl.LevelCrate(c)) }},
		{"FillFrom", noCrate + " " + noCrate + " 1", func(c impl.Crate, _ []impl.Crate) string {
			return three(impl.FillFrom(c, exampleCrate()))
		}},
		{"FillFrom behind", noCrate + " " + noCrate + " 1", func(c impl.Crate, _ []impl.Crate) string {
			return three(impl.FillFrom(exampleCrate(), c))
		}},
		{"CrateText", "", func(c impl.Crate, _ []impl.Crate) string { return impl.CrateText(c) }},
		{"ValidStack", "false", func(_ impl.Crate, list []impl.Crate) string { return show(impl.ValidStack(list)) }},
		{"CountsIn", "[] 1", func(_ impl.Crate, list []impl.Crate) string { return two(impl.CountsIn(list)) }},
		{"CountOf", "0 1", func(_ impl.Crate, list []impl.Crate) string { return two(impl.CountOf(list, b)) }},
		{"PackStack", "[] 1", func(_ impl.Crate, list []impl.Crate) string { return two(impl.PackStack(list)) }},
	}
}

func two[A, B any](a A, b B) string           { return show(a, b) }
func three[A, B, C any](a A, b B, c C) string { return show(a, b, c) }

// P1: ErrInvalid comes first, and all other results are zero values then.
func TestInvalidCrates(t *testing.T) {
	tooMany := slices.Repeat([]impl.Crate{exampleCrate()}, impl.MaxStack+1)
	for _, one := range crateCalls() {
		for _, c := range invalidCrates() {
			is(t, one.name, one.invalid, one.run(c, []impl.Crate{exampleCrate(), c}))
			is(t, one.name+" of many", one.invalid, one.run(c, slices.Repeat([]impl.Crate{c}, 20000)))
		}
		is(t, one.name+" of 13", one.invalid, one.run(invalidCrates()[0], tooMany))
	}
}

func TestInvalidBottles(t *testing.T) {
	c := exampleCrate()
	for _, b := range append(invalidBottles(), impl.Bottle{}) {
		is(t, "PutBottle", show(impl.Crate{}, 1), two(impl.PutBottle(c, 1, b)))
		is(t, "AddBottle", show(impl.Crate{}, 0, 1), three(impl.AddBottle(c, b)))
		is(t, "PlaceOf", "0 1", two(impl.PlaceOf(c, b)))
		is(t, "CountOf", "0 1", two(impl.CountOf([]impl.Crate{c}, b)))
		is(t, "BottleText", "", impl.BottleText(b))
	}
}

// P1: results are equal for equal arguments.
func TestEqualResults(t *testing.T) {
	crates := sampleCrates()
	for _, one := range crateCalls() {
		for i, list := range sampleStacks() {
			c := crates[i%len(crates)]
			is(t, one.name, one.run(c, list), one.run(c, slices.Clone(list)))
		}
		is(t, one.name+" of none", one.run(impl.Crate{}, nil), one.run(impl.Crate{}, []impl.Crate{}))
	}
}

// P1: arguments are not modified, nor is the unused capacity of a slice.
func TestArgumentsAreKept(t *testing.T) {
	for _, one := range crateCalls() {
		for _, list := range sampleStacks() {
			whole := append(slices.Clone(list), exampleCrate(), impl.Crate{}, exampleCrate())
			before := slices.Clone(whole)
			one.run(exampleCrate(), whole[:len(list)])
			impl.SameStack(whole[:len(list)], whole)
			if !slices.Equal(whole, before) {
				t.Errorf("%s modifies its argument", one.name)
			}
		}
	}
}

// P1: a list that has been returned shares no memory with another one.
func TestResultsAreNew(t *testing.T) {
	list := []impl.Crate{exampleCrate(), fullOf(bottle(1, 2001))}
	spoil(t, "FreePlaces", func() []int64 { r, _ := impl.FreePlaces(list[0]); return r })
	spoil(t, "BottlesIn", func() []impl.Bottle { r, _ := impl.BottlesIn(list[0]); return r })
	spoil(t, "CountsIn", func() []impl.Count { r, _ := impl.CountsIn(list); return r })
	spoil(t, "PackStack", func() []impl.Crate { r, _ := impl.PackStack(list); return r })
	is(t, "list", show([]impl.Crate{exampleCrate(), fullOf(bottle(1, 2001))}), list)
}

// spoil overwrites a result, and what is behind it, and looks whether it is returned again.
func spoil[T any](t *testing.T, name string, run func() []T) {
	t.Helper()
	result := run()
	want := show(result)
	other := run()
	clear(result[:cap(result)])
	is(t, name, want, other)
	is(t, name+" again", want, run())
}
