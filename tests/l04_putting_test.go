package tests

import (
	"slices"
	"testing"

	"loop.example/g01353/impl"
)

// sampleStored returns what is put away, on early days and on late ones.
func sampleStored() []impl.Stored {
	return []impl.Stored{
		stored(1, 2000, 0), stored(2, 2001, 4), stored(7, 1999, 2), stored(1, 2000, 7), stored(1, 2001, 2000), stored(1, 2000, 1),
		stored(2, 2001, 4), stored(3, 2000, 9), stored(20, 2099, 5), stored(1, 1900, 3), stored(2, 2000, 6),
	}
}

func TestBestLane(t *testing.T) {
	for _, r := range sampleRacks() {
		for _, s := range sampleStored() {
			lane, code := laneFor(r, s)
			is(t, "lane", show(lane, code), two(impl.BestLane(r, s)))
		}
	}
}

func TestBestLaneEdges(t *testing.T) {
	best := func(text string, day int16) string { return two(impl.BestLane(rack(t, text), stored(1, 2001, day))) }
	six := "9:2001@9 9:2001@9 9:2001@9 9:2001@9 9:2001@9 9:2001@9/"
	is(t, "no lanes", "0 6", best("", 5))
	is(t, "full lanes", "0 6", best(six+six, 5))
	is(t, "the lane with room", "1 0", best(six+"1:2001@1 1:2001@1 1:2001@1 1:2001@1 1:2001@1/", 5))
	is(t, "the first one of empty lanes", "0 0", best("///", 5))
	is(t, "the empty one", "1 0", best("9:2001@9//", 5))
	is(t, "fewest ahead of room", "1 0", best("9:2001@4/9:2001@9 9:2001@9 9:2001@9/", 5))
	is(t, "the same day is not blocked", "1 0", best("9:2001@4/9:2001@5 9:2001@5/", 5))
	is(t, "not only alike ones", "1 0", best("9:2001@4 9:2001@4/9:2001@4/", 5))
	is(t, "room of several", "2 0", best("9:2001@9 9:2001@9/9:2001@9 9:2001@9/9:2001@9/", 5))
	is(t, "least of several", "1 0", best(six+"9:2001@4/9:2001@4/", 5))
	is(t, "more room, as many blocked", "1 0", best("9:2001@4 9:2001@9/9:2001@4/", 5))
	is(t, "day 0 blocks none", "0 0", best("9:2001@0/9:2001@0/", 0))
}

// P9: what is stored is there, in the lanes that are told.
func TestStoreAll(t *testing.T) {
	codes := map[int64]int{}
	for i, r := range sampleRacks() {
		list := slices.Repeat(sampleStored(), 4)[i%11 : i%11+i%30]
		own, where, code := copyOf(r), []int64{}, int64(impl.OK)
		for _, s := range list {
			lane, wrong := laneFor(own, s)
			if wrong != impl.OK {
				own, where, code = nil, nil, wrong
				break
			}
			own[lane] = append(own[lane], s)
			where = append(where, lane)
		}
		is(t, "stored", show(own, where, code), three(impl.StoreAll(r, list)))
		codes[code]++
		if code == impl.OK {
			is(t, "kept", show(storedOf(append(slices.Clone(r), list)...)), storedOf(own...))
		}
	}
	if codes[impl.OK] < 100 || codes[impl.ErrNotFound] < 100 {
		t.Errorf("the samples are stored with %v", codes)
	}
}

// P9: bottles that are stored are taken again, the last one first.
func TestStoreAllAndTakeFront(t *testing.T) {
	for _, r := range sampleRacks() {
		list := sampleStored()
		left, where, code := impl.StoreAll(r, list)
		if code != impl.OK {
			continue
		}
		for i := len(list) - 1; i >= 0; i-- {
			before, s, code := impl.TakeFront(left, where[i])
			is(t, "taken", show(list[i], 0), s, code)
			left = before
		}
		is(t, "as before", show(r), left)
	}
}

func TestStoreAllEdges(t *testing.T) {
	s := stored(1, 2001, 6)
	r := rackExample()
	is(t, "no bottles", show(r, []int64{}, 0), three(impl.StoreAll(r, nil)))
	is(t, "no bottles, no lanes", "[] [] 0", three(impl.StoreAll(nil, nil)))
	is(t, "no lanes", "[] [] 6", three(impl.StoreAll(nil, []impl.Stored{s})))
	is(t, "one after the other", "[2 1 2] 0", show(lanesTold(impl.StoreAll(r, []impl.Stored{s, stored(1, 2001, 7), stored(1, 2001, 6)}))))
	all := slices.Repeat([]impl.Stored{s}, 48)
	full, where, code := impl.StoreAll(make(impl.Rack, 8), all)
	is(t, "48 bottles", "48 48 0", len(slices.Concat(full...)), len(where), code)
	is(t, "lane by lane", "[0 1 2 3 4 5 6 7 0 1]", where[:10])
	is(t, "49 bottles", "[] [] 6", three(impl.StoreAll(make(impl.Rack, 8), append(all, s))))
	is(t, "many", "[] [] 6", three(impl.StoreAll(make(impl.Rack, 8), slices.Repeat(all, 20000))))
	for _, none := range invalidStored() {
		is(t, "invalid", "[] [] 1", three(impl.StoreAll(r, []impl.Stored{s, none})))
		is(t, "invalid ahead of not found", "[] [] 1", three(impl.StoreAll(nil, []impl.Stored{s, none})))
		is(t, "invalid behind many", "[] [] 1", three(impl.StoreAll(full, append(all, none))))
		is(t, "no best lane", "0 1", two(impl.BestLane(r, none)))
		is(t, "no best lane ahead of not found", "0 1", two(impl.BestLane(nil, none)))
	}
}

// lanesTold joins the lanes and the code of StoreAll.
func lanesTold(_ impl.Rack, where []int64, code int64) string { return show(where, code) }

// P9: in a lane that has been sorted nothing is blocked.
func TestSortLane(t *testing.T) {
	for _, r := range sampleRacks() {
		for lane, list := range r {
			want := copyOf(r)
			slices.SortStableFunc(want[lane], func(a, b impl.Stored) int { return int(b.Day) - int(a.Day) })
			got, code := impl.SortLane(r, int64(lane))
			is(t, "sorted", show(want, 0), got, code)
			is(t, "nothing is blocked", "0 0", two(impl.BlockedIn(got[lane:lane+1])))
			is(t, "kept", show(storedOf(list)), storedOf(got[lane]))
		}
	}
}

func TestSortLaneEdges(t *testing.T) {
	sorted := func(text string, lane int64) string { return laneText(impl.SortLane(rack(t, text), lane)) }
	is(t, "example", "1:2001@9 1:2001@5 3:1999@2/1:2001@7// 0", laneText(impl.SortLane(rackExample(), 0)))
	is(t, "the same day", "5:2001@3 2:2001@2 1:2001@2 3:2001@2 4:2001@1/ 0", sorted("2:2001@2 4:2001@1 1:2001@2 5:2001@3 3:2001@2/", 0))
	is(t, "empty lane", "1:2001@1 2:2001@2// 0", sorted("1:2001@1 2:2001@2//", 1))
	is(t, "other lanes stay", "1:2001@1 2:2001@2/2:2001@2 1:2001@1/1:2001@1 2:2001@2/ 0", sorted("1:2001@1 2:2001@2/1:2001@1 2:2001@2/1:2001@1 2:2001@2/", 1))
	is(t, "first and last day", "1:2001@2000 1:2001@0/ 0", sorted("1:2001@0 1:2001@2000/", 0))
	for _, lane := range []int64{-1, 3, 8, -1 << 63, 1<<63 - 1, 1 << 32} {
		is(t, "no lane", "[] 2", two(impl.SortLane(rackExample(), lane)))
	}
	is(t, "no lanes", "[] 2", two(impl.SortLane(nil, 0)))
}

// unfairIn looks at each one with all that are still there.
func unfairIn(taken, left []impl.Stored, slack int64) (int64, int64) {
	for i, s := range taken {
		for _, other := range slices.Concat(taken[i:], left) {
			if other.Bottle == s.Bottle && int64(other.Day)+slack < int64(s.Day) {
				return int64(i), impl.OK
			}
		}
	}
	return 0, impl.ErrNotFound
}

func TestFirstUnfair(t *testing.T) {
	racks := sampleRacks()
	codes := map[int64]int{}
	for i, r := range racks {
		taken, left := slices.Concat(r...), slices.Concat(racks[(i*7+1)%len(racks)]...)
		slices.Reverse(taken[:len(taken)/2])
		for _, slack := range []int64{0, 1, 2, 5, 7, 8, 9, 2000} {
			for _, one := range [][2][]impl.Stored{{taken, left}, {taken, nil}, {nil, left}, {taken[:len(taken)/4], left}, {left, taken[len(taken)/2:]}} {
				first, code := unfairIn(one[0], one[1], slack)
				is(t, "first", show(first, code), two(impl.FirstUnfair(one[0], one[1], slack)))
				codes[code]++
			}
		}
	}
	if codes[impl.OK] < 100 || codes[impl.ErrNotFound] < 100 {
		t.Errorf("the samples are unfair with %v", codes)
	}
}

func TestFirstUnfairEdges(t *testing.T) {
	b := func(day int16) impl.Stored { return stored(1, 2001, day) }
	unfair := func(slack int64, left []impl.Stored, taken ...impl.Stored) string {
		return two(impl.FirstUnfair(taken, left, slack))
	}
	is(t, "none", "0 6", unfair(0, nil))
	is(t, "none taken", "0 6", unfair(0, []impl.Stored{b(1), b(0)}))
	is(t, "oldest first", "0 6", unfair(0, []impl.Stored{b(9)}, b(1), b(5), b(9)))
	is(t, "taken later", "1 0", unfair(0, nil, b(1), b(3), b(2)))
	is(t, "left", "1 0", unfair(0, []impl.Stored{b(2)}, b(1), b(3)))
	is(t, "taken before", "0 6", unfair(0, nil, b(1), b(2), b(3)))
	is(t, "the first of several", "0 0", unfair(0, []impl.Stored{b(0)}, b(1), b(2), b(3)))
	is(t, "not alike", "0 6", unfair(0, []impl.Stored{stored(1, 2000, 1), stored(2, 2001, 1)}, b(9)))
	is(t, "the same day", "0 6", unfair(0, []impl.Stored{b(9)}, b(9), b(9)))
	is(t, "slack reached", "0 6", unfair(3, []impl.Stored{b(2)}, b(5)))
	is(t, "slack exceeded", "0 0", unfair(3, []impl.Stored{b(1)}, b(5)))
	is(t, "greatest slack", "0 6", unfair(2000, []impl.Stored{b(0)}, b(2000)))
	is(t, "greatest slack but one", "0 0", unfair(1999, []impl.Stored{b(0)}, b(2000)))
	is(t, "not the oldest one of the list", "1 0", unfair(0, []impl.Stored{b(4)}, b(3), b(5)))
}

func TestFirstUnfairErrors(t *testing.T) {
	s := stored(1, 2001, 5)
	for _, none := range invalidStored() {
		for _, slack := range []int64{0, 2000, -1, 2001} {
			is(t, "taken", "0 1", two(impl.FirstUnfair([]impl.Stored{s, none}, nil, slack)))
			is(t, "left", "0 1", two(impl.FirstUnfair(nil, []impl.Stored{s, none}, slack)))
			is(t, "both", "0 1", two(impl.FirstUnfair([]impl.Stored{none}, []impl.Stored{none}, slack)))
		}
	}
	for _, slack := range []int64{-1, 2001, -1 << 63, 1<<63 - 1, 1 << 32} {
		is(t, "slack", "0 2", two(impl.FirstUnfair([]impl.Stored{s}, []impl.Stored{stored(1, 2001, 0)}, slack)))
		is(t, "slack ahead of not found", "0 2", two(impl.FirstUnfair(nil, nil, slack)))
	}
}

// P1: it returns for lists that are as long as can be.
func TestFirstUnfairOfMany(t *testing.T) {
	many := make([]impl.Stored, 500000)
	for i := range many {
		many[i] = stored(uint8(1+i%20), int16(1900+i%200), int16(i/250))
	}
	is(t, "fair", "0 6", two(impl.FirstUnfair(many, slices.Repeat([]impl.Stored{stored(1, 1900, 2000)}, 500000), 0)))
	is(t, "unfair", "250 0", two(impl.FirstUnfair(many, slices.Repeat([]impl.Stored{stored(11, 1950, 0)}, 500000), 0)))
}
