package tests

import (
	"slices"
	"testing"

	"loop.example/g01353/impl"
)

// rackCall is a call of a function of chapter 4, and what it returns if the
// rack is not valid.
type rackCall struct {
	name    string
	invalid string
	run     func(r impl.Rack) string
}

// somewhere returns a lane of a rack that is not empty, if there is one.
func somewhere(r impl.Rack) int64 {
	return int64(max(0, slices.IndexFunc(r, func(list []impl.Stored) bool { return len(list) > 0 })))
}

func rackCalls() []rackCall {
	b, s := bottle(1, 2000), stored(1, 2000, 3)
	wanted := []impl.Bottle{b, bottle(2, 2001), b}
	list := []impl.Stored{s, stored(2, 2001, 1), s}
	taken := "[] {{0 0} 0} 0 1"
	return []rackCall{
		{"ValidRack", "false", func(r impl.Rack) string { return show(impl.ValidRack(r)) }},
		{"StoredIn", "0 1", func(r impl.Rack) string { return two(impl.StoredIn(r)) }},
		{"FreeIn", "0 1", func(r impl.Rack) string { return two(impl.FreeIn(r)) }},
		{"StoreAt", "[] 1", func(r impl.Rack) string { return two(impl.StoreAt(r, somewhere(r), s)) }},
		{"StoreAt of no lane", "[] 1", func(r impl.Rack) string { return two(impl.StoreAt(r, -1, s)) }},
		{"StoreAt of an invalid bottle", "[] 1", func(r impl.Rack) string { return two(impl.StoreAt(r, 0, impl.Stored{})) }},
		{"TakeFront", "[] {{0 0} 0} 1", func(r impl.Rack) string { return three(impl.TakeFront(r, somewhere(r))) }},
		{"TakeFront of no lane", "[] {{0 0} 0} 1", func(r impl.Rack) string { return three(impl.TakeFront(r, -1)) }},
		{"BlockedIn", "0 1", func(r impl.Rack) string { return two(impl.BlockedIn(r)) }},
		{"OldestOf", "0 0 1", func(r impl.Rack) string { return three(impl.OldestOf(r, b)) }},
		{"AheadOf", "0 1", func(r impl.Rack) string { return two(impl.AheadOf(r, somewhere(r), 0)) }},
		{"AheadOf no lane", "0 1", func(r impl.Rack) string { return two(impl.AheadOf(r, -1, 0)) }},
		{"AheadOf no index", "0 1", func(r impl.Rack) string { return two(impl.AheadOf(r, 0, 1<<40)) }},
		{"ChoiceOf", "0 0 1", func(r impl.Rack) string { return three(impl.ChoiceOf(r, b, 1)) }},
		{"ChoiceOf without slack", "0 0 1", func(r impl.Rack) string { return three(impl.ChoiceOf(r, b, -1)) }},
		{"ReachOut", taken, func(r impl.Rack) string { return four(impl.ReachOut(r, somewhere(r), 0)) }},
		{"ReachOut of no lane", taken, func(r impl.Rack) string { return four(impl.ReachOut(r, 1<<40, 0)) }},
		{"ReachOut of no index", taken, func(r impl.Rack) string { return four(impl.ReachOut(r, 0, -1)) }},
		{"TakeOldest", taken, func(r impl.Rack) string { return four(impl.TakeOldest(r, b, 0)) }},
		{"TakeOldest without slack", taken, func(r impl.Rack) string { return four(impl.TakeOldest(r, b, 2001)) }},
		{"TakeEach", "[] [] 0 1", func(r impl.Rack) string { return four(impl.TakeEach(r, wanted, 1)) }},
		{"TakeEach of none", "[] [] 0 1", func(r impl.Rack) string { return four(impl.TakeEach(r, nil, 1)) }},
		{"TakeEach of many", "[] [] 0 1", func(r impl.Rack) string { return four(impl.TakeEach(r, slices.Repeat(wanted, 7), -1)) }},
		{"BestTurn", "[] 0 1", func(r impl.Rack) string { return three(impl.BestTurn(r, wanted, 1)) }},
		{"BestTurn of none", "[] 0 1", func(r impl.Rack) string { return three(impl.BestTurn(r, nil, 1)) }},
		{"BestTurn of many", "[] 0 1", func(r impl.Rack) string { return three(impl.BestTurn(r, slices.Repeat(wanted, 2), -1)) }},
		{"BestLane", "0 1", func(r impl.Rack) string { return two(impl.BestLane(r, s)) }},
		{"StoreAll", "[] [] 1", func(r impl.Rack) string { return three(impl.StoreAll(r, list)) }},
		{"StoreAll of none", "[] [] 1", func(r impl.Rack) string { return three(impl.StoreAll(r, nil)) }},
		{"SortLane", "[] 1", func(r impl.Rack) string { return two(impl.SortLane(r, somewhere(r))) }},
		{"SortLane of no lane", "[] 1", func(r impl.Rack) string { return two(impl.SortLane(r, -1)) }},
		{"RackText", "", func(r impl.Rack) string { return impl.RackText(r) }},
	}
}

// P1: ErrInvalid comes first, and all other results are zero values then.
func TestInvalidRacks(t *testing.T) {
	for _, one := range rackCalls() {
		for _, r := range invalidRacks() {
			is(t, one.name, one.invalid, one.run(r))
		}
	}
}

func TestInvalidBottlesOfRacks(t *testing.T) {
	for _, r := range []impl.Rack{nil, rackExample()} {
		for _, b := range append(invalidBottles(), impl.Bottle{}) {
			wanted := []impl.Bottle{bottle(1, 2001), b}
			many := append(slices.Repeat([]impl.Bottle{bottle(1, 2001)}, 21), b)
			is(t, "OldestOf", "0 0 1", three(impl.OldestOf(r, b)))
			is(t, "ChoiceOf", "0 0 1", three(impl.ChoiceOf(r, b, 0)))
			is(t, "TakeOldest", "[] {{0 0} 0} 0 1", four(impl.TakeOldest(r, b, 0)))
			is(t, "TakeEach", "[] [] 0 1", four(impl.TakeEach(r, wanted, 0)))
			is(t, "TakeEach of many", "[] [] 0 1", four(impl.TakeEach(r, many, 0)))
			is(t, "BestTurn", "[] 0 1", three(impl.BestTurn(r, wanted, 0)))
			is(t, "BestTurn of many", "[] 0 1", three(impl.BestTurn(r, many, 0)))
		}
	}
}

// P1: results are equal for equal arguments, however the lanes lie in memory.
func TestEqualResultsOfRacks(t *testing.T) {
	for _, one := range rackCalls() {
		for _, r := range sampleRacks() {
			near, _ := closeOf(r)
			is(t, one.name, one.run(copyOf(r)), one.run(near))
		}
		is(t, one.name+" of none", one.run(nil), one.run(impl.Rack{}))
		is(t, one.name+" of empty lanes", one.run(make(impl.Rack, 3)), one.run(impl.Rack{{}, {}, {}}))
	}
}

// P1: arguments are not modified, nor is the unused capacity of a slice.
func TestRacksAreKept(t *testing.T) {
	for _, one := range rackCalls() {
		for _, r := range sampleRacks() {
			near, array := closeOf(r)
			spare := near[len(r):cap(near)]
			before := slices.Clone(array)
			one.run(near)
			if !slices.Equal(array, before) || !impl.SameRack(near, r) || !impl.SameRack(spare, make(impl.Rack, len(spare))) {
				t.Errorf("%s modifies its argument", one.name)
			}
		}
	}
}

func TestListsOfRacksAreKept(t *testing.T) {
	wanted := []impl.Bottle{bottle(1, 2001), bottle(3, 1999), bottle(1, 2001), {}, bottle(9, 1999)}
	list := []impl.Stored{stored(1, 2001, 9), stored(1, 2001, 3), stored(3, 1999, 4), {}, stored(2, 2000, 1)}
	before := show(wanted, list)
	for range 2 {
		impl.TakeEach(rackExample(), wanted[:3], 0)
		impl.BestTurn(rackExample(), wanted[:3], 0)
		impl.StoreAll(rackExample(), list[:3])
		impl.FirstUnfair(list[:3], list[1:3], 0)
		impl.FirstUnfair(list[:2], list[2:3], 0)
	}
	is(t, "kept", before, show(wanted, list))
}

// P1: a rack that has been returned shares no memory with an argument, nor do
// two of its lanes.
func TestRackResultsAreNew(t *testing.T) {
	b, s := bottle(1, 2000), stored(1, 2000, 3)
	runs := map[string]func(r impl.Rack) impl.Rack{
		"StoreAt":           func(r impl.Rack) impl.Rack { left, _ := impl.StoreAt(r, 0, s); return left },
		"TakeFront":         func(r impl.Rack) impl.Rack { left, _, _ := impl.TakeFront(r, somewhere(r)); return left },
		"ReachOut":          func(r impl.Rack) impl.Rack { left, _, _, _ := impl.ReachOut(r, somewhere(r), 0); return left },
		"TakeOldest":        func(r impl.Rack) impl.Rack { left, _, _, _ := impl.TakeOldest(r, b, 0); return left },
		"TakeEach":          func(r impl.Rack) impl.Rack { left, _, _, _ := impl.TakeEach(r, []impl.Bottle{b, b}, 2); return left },
		"TakeEach of none":  func(r impl.Rack) impl.Rack { left, _, _, _ := impl.TakeEach(r, nil, 0); return left },
		"StoreAll":          func(r impl.Rack) impl.Rack { left, _, _ := impl.StoreAll(r, []impl.Stored{s, s}); return left },
		"StoreAll of none":  func(r impl.Rack) impl.Rack { left, _, _ := impl.StoreAll(r, nil); return left },
		"SortLane":          func(r impl.Rack) impl.Rack { left, _ := impl.SortLane(r, 0); return left },
		"ReadRack":          func(r impl.Rack) impl.Rack { left, _ := impl.ReadRack(impl.RackText(r)); return left },
		"SortLane behind":   func(r impl.Rack) impl.Rack { left, _ := impl.SortLane(r, int64(len(r))-1); return left },
		"TakeFront of last": func(r impl.Rack) impl.Rack { left, _, _ := impl.TakeFront(r, int64(len(r))-1); return left },
	}
	for name, run := range runs {
		for _, r := range sampleRacks() {
			near, array := closeOf(r)
			before := slices.Clone(array)
			want := show(run(near))
			for lane := range run(near) {
				left := run(near)
				wipe(left[lane])
				other := copyOf(run(near))
				clear(other[lane])
				clear(left[lane])
				is(t, name+" other lanes", show(other), left)
			}
			clear(run(near))
			is(t, name+" again", want, run(near))
			if !slices.Equal(array, before) || !impl.SameRack(near, r) {
				t.Errorf("%s gives out its argument", name)
			}
		}
	}
}

// wipe overwrites a lane, and what is behind it.
func wipe(list []impl.Stored) { clear(list[:cap(list)]) }

func TestListsOfRacksAreNew(t *testing.T) {
	r := rackExample()
	wanted := []impl.Bottle{bottle(1, 2001), bottle(3, 1999)}
	list := []impl.Stored{stored(1, 2001, 6), stored(3, 1999, 4)}
	spoil(t, "TakeEach", func() []impl.Stored { _, taken, _, _ := impl.TakeEach(r, wanted, 0); return taken })
	spoil(t, "BestTurn", func() []int64 { turn, _, _ := impl.BestTurn(r, wanted, 0); return turn })
	spoil(t, "StoreAll", func() []int64 { _, where, _ := impl.StoreAll(r, list); return where })
	is(t, "arguments", show(rackExample(), wanted, list), r, []impl.Bottle{bottle(1, 2001), bottle(3, 1999)}, []impl.Stored{stored(1, 2001, 6), stored(3, 1999, 4)})
}
