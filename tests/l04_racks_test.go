package tests

import (
	"slices"
	"testing"

	"loop.example/g01353/impl"
)

func TestRackLimits(t *testing.T) {
	is(t, "limits", "8 6 2000", impl.MaxLanes, impl.LaneLong, impl.MaxStored)
}

func TestRackExample(t *testing.T) {
	r := rackExample()
	b := bottle(1, 2001)
	is(t, "text", "1:2001@5 1:2001@9 3:1999@2\n1:2001@7\n\n", impl.RackText(r))
	is(t, "oldest", "0 0 0", three(impl.OldestOf(r, b)))
	is(t, "ahead", "2 0", two(impl.AheadOf(r, 0, 0)))
	is(t, "slack 2", "1 0 0", three(impl.ChoiceOf(r, b, 2)))
	is(t, "slack 1", "0 0 0", three(impl.ChoiceOf(r, b, 1)))
	is(t, "reach", "/1:2001@7 1:2001@9/3:1999@2/ {{1 2001} 5} 2 0", takenText(impl.ReachOut(r, 0, 0)))
	is(t, "blocked", "1 0", two(impl.BlockedIn(r)))
	is(t, "best lane", "2 0", two(impl.BestLane(r, stored(1, 2001, 6))))
}

func TestValidRack(t *testing.T) {
	for _, r := range sampleRacks() {
		is(t, "valid", "true", impl.ValidRack(r))
	}
	for _, r := range invalidRacks() {
		is(t, "invalid", "false", impl.ValidRack(r))
	}
	for _, s := range []impl.Stored{stored(1, 1900, 0), stored(20, 2099, 2000)} {
		is(t, "limits reached", "true", impl.ValidRack(impl.Rack{{s}}))
	}
	is(t, "8 lanes of 6", "true", impl.ValidRack(slices.Repeat(impl.Rack{fullLane(stored(1, 2001, 1))}, 8)))
	is(t, "9 lanes", "false", impl.ValidRack(slices.Repeat(impl.Rack{{stored(1, 2001, 1)}}, 9)))
}

func TestSameRack(t *testing.T) {
	racks := append(sampleRacks(), invalidRacks()...)
	for i, r := range racks {
		is(t, "itself", "true", impl.SameRack(r, copyOf(r)))
		is(t, "another one", show(slices.EqualFunc(r, racks[(i+1)%len(racks)], slices.Equal)), impl.SameRack(r, racks[(i+1)%len(racks)]))
	}
	is(t, "nil and empty", "true true true", impl.SameRack(nil, impl.Rack{}), impl.SameRack(impl.Rack{nil}, impl.Rack{{}}), impl.SameRack(impl.Rack{{}}, impl.Rack{nil}))
	r := rackExample()
	is(t, "lane less", "false false", impl.SameRack(r, r[:2]), impl.SameRack(r[:2], r))
	is(t, "none and an empty lane", "false", impl.SameRack(nil, impl.Rack{nil}))
	is(t, "order of lanes", "false", impl.SameRack(r, impl.Rack{r[1], r[0], r[2]}))
	for _, s := range []impl.Stored{stored(1, 2001, 8), stored(1, 2000, 7), stored(2, 2001, 7)} {
		is(t, "other bottle", "false", impl.SameRack(r, impl.Rack{r[0], {s}, nil}))
	}
	is(t, "bottle less", "false false", impl.SameRack(r, impl.Rack{r[0][:2], r[1], nil}), impl.SameRack(impl.Rack{r[0][:2], r[1], nil}, r))
	is(t, "order in a lane", "false", impl.SameRack(r, impl.Rack{{r[0][1], r[0][0], r[0][2]}, r[1], nil}))
}

func TestStoredAndFree(t *testing.T) {
	for _, r := range sampleRacks() {
		number := len(slices.Concat(r...))
		is(t, "stored", show(number, 0), two(impl.StoredIn(r)))
		is(t, "free", show(len(r)*6-number, 0), two(impl.FreeIn(r)))
	}
	is(t, "no lanes", "0 0 0 0", two(impl.StoredIn(nil)), two(impl.FreeIn(nil)))
	is(t, "empty lanes", "0 0 48 0", two(impl.StoredIn(make(impl.Rack, 8))), two(impl.FreeIn(make(impl.Rack, 8))))
	full := slices.Repeat(impl.Rack{fullLane(stored(1, 2001, 1))}, 8)
	is(t, "full lanes", "48 0 0 0", two(impl.StoredIn(full)), two(impl.FreeIn(full)))
}

// P9: a bottle that is stored is taken again.
func TestStoreAtAndTakeFront(t *testing.T) {
	s := stored(19, 1950, 1234)
	for _, r := range sampleRacks() {
		for lane := range r {
			more, code := impl.StoreAt(r, int64(lane), s)
			if len(r[lane]) == impl.LaneLong {
				is(t, "full", "[] 3", more, code)
				continue
			}
			want := copyOf(r)
			want[lane] = append(want[lane], s)
			is(t, "stored", show(want, 0), more, code)
			is(t, "taken", show(r, s, 0), three(impl.TakeFront(more, int64(lane))))
		}
	}
}

func TestTakeFront(t *testing.T) {
	for _, r := range sampleRacks() {
		for lane, list := range r {
			if len(list) == 0 {
				is(t, "empty", "[] {{0 0} 0} 6", three(impl.TakeFront(r, int64(lane))))
				continue
			}
			want := copyOf(r)
			want[lane] = want[lane][:len(list)-1]
			front := list[len(list)-1]
			is(t, "taken", show(want, front, 0), three(impl.TakeFront(r, int64(lane))))
			left, _, _ := impl.TakeFront(r, int64(lane))
			is(t, "stored again", show(r, 0), two(impl.StoreAt(left, int64(lane), front)))
		}
	}
	is(t, "front", "1:2001@5 1:2001@9/1:2001@7// {{3 1999} 2} 0", frontText(impl.TakeFront(rackExample(), 0)))
}

// frontText returns the text of a rack, what has been taken, and a code.
func frontText(r impl.Rack, s impl.Stored, code int64) string { return show(lanes(r), s, code) }

func TestStoreAtErrors(t *testing.T) {
	r := append(rackExample(), fullLane(stored(1, 2001, 1)))
	s := stored(1, 2001, 3)
	is(t, "sixth", "3:1999@2 3:1999@2 3:1999@2 3:1999@2 3:1999@2 1:2001@3/ 0", laneText(impl.StoreAt(rack(t, "3:1999@2 3:1999@2 3:1999@2 3:1999@2 3:1999@2/"), 0, s)))
	is(t, "seventh", "[] 3", two(impl.StoreAt(r, 3, s)))
	for _, lane := range []int64{-1, 4, 5, -1 << 63, 1<<63 - 1, 1 << 32} {
		is(t, "no lane", "[] 2", two(impl.StoreAt(r, lane, s)))
		is(t, "no lane to take from", "[] {{0 0} 0} 2", three(impl.TakeFront(r, lane)))
		for _, none := range invalidStored() {
			is(t, "invalid ahead of range", "[] 1", two(impl.StoreAt(r, lane, none)))
		}
	}
	for _, none := range invalidStored() {
		is(t, "invalid", "[] 1", two(impl.StoreAt(r, 0, none)))
		is(t, "invalid ahead of limit", "[] 1", two(impl.StoreAt(r, 3, none)))
	}
	is(t, "no lanes", "[] 2", two(impl.StoreAt(nil, 0, s)))
	is(t, "no lanes to take from", "[] {{0 0} 0} 2", three(impl.TakeFront(nil, 0)))
}

func TestAheadOf(t *testing.T) {
	for _, r := range sampleRacks() {
		for lane, list := range r {
			for index := range list {
				is(t, "ahead", show(len(list[index+1:]), 0), two(impl.AheadOf(r, int64(lane), int64(index))))
			}
			for _, index := range []int64{-1, int64(len(list)), 6, -1 << 63, 1<<63 - 1, 1 << 32} {
				is(t, "no index", "0 2", two(impl.AheadOf(r, int64(lane), index)))
			}
		}
		for _, lane := range []int64{-1, int64(len(r)), 8, -1 << 63, 1<<63 - 1, 1 << 32} {
			is(t, "no lane", "0 2", two(impl.AheadOf(r, lane, 0)))
		}
	}
}

func TestBlockedIn(t *testing.T) {
	for _, r := range sampleRacks() {
		blocked := 0
		for _, list := range r {
			for i := range list {
				for _, ahead := range list[i+1:] {
					if ahead.Day > list[i].Day {
						blocked++
					}
				}
			}
		}
		is(t, "blocked", show(blocked, 0), two(impl.BlockedIn(r)))
	}
	blocked := func(text string) string { return two(impl.BlockedIn(rack(t, text))) }
	is(t, "no lanes", "0 0", blocked(""))
	is(t, "empty lanes", "0 0", blocked("//"))
	is(t, "the same day", "0 0", blocked("1:2001@5 1:2001@5 2:2001@5/"))
	is(t, "less ahead", "0 0", blocked("1:2001@5 1:2001@4 2:2001@0/"))
	is(t, "greater ahead", "3 0", blocked("1:2001@0 1:2001@1999 1:2001@2000/"))
	is(t, "not alike", "1 0", blocked("1:2001@5 2:1999@6/"))
	is(t, "other lanes", "0 0", blocked("1:2001@5/1:2001@6/1:2001@7/"))
	is(t, "all pairs of a lane", "15 0", blocked("1:2001@0 1:2001@1 1:2001@2 1:2001@3 1:2001@4 1:2001@5/"))
}
