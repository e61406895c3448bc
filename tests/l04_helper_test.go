package tests

import (
	"slices"
	"strings"
	"testing"

	"loop.example/g01353/impl"
)

func four[A, B, C, D any](a A, b B, c C, d D) string { return show(a, b, c, d) }

func stored(kind uint8, year, day int16) impl.Stored {
	return impl.Stored{Bottle: bottle(kind, year), Day: day}
}

// rack returns the rack with a text in which each lane ends with "/".
func rack(t *testing.T, text string) impl.Rack {
	t.Helper()
	r, code := impl.ReadRack(strings.ReplaceAll(text, "/", "\n"))
	if code != impl.OK {
		t.Fatalf("%q is read with %d", text, code)
	}
	return r
}

// lanes returns the text of a rack, with "/" behind each lane.
func lanes(r impl.Rack) string { return strings.ReplaceAll(impl.RackText(r), "\n", "/") }

// laneText returns the text of a rack, and a code.
func laneText(r impl.Rack, code int64) string { return show(lanes(r), code) }

// takenText returns the text of a rack, what has been taken, the moves and a code.
func takenText[T any](r impl.Rack, taken T, moves, code int64) string {
	return show(lanes(r), taken, moves, code)
}

// rackExample returns the rack of the chapter's example.
func rackExample() impl.Rack {
	return impl.Rack{{stored(1, 2001, 5), stored(1, 2001, 9), stored(3, 1999, 2)}, {stored(1, 2001, 7)}, nil}
}

// copyOf returns a rack that shares no memory with r.
func copyOf(r impl.Rack) impl.Rack {
	own := make(impl.Rack, len(r))
	for lane := range r {
		own[lane] = append([]impl.Stored{}, r[lane]...)
	}
	return own
}

// closeOf returns the same rack, all of whose lanes lie in one array, each one
// with the next ones, and something else, as its unused capacity.
func closeOf(r impl.Rack) (impl.Rack, []impl.Stored) {
	array := append(slices.Concat(r...), stored(20, 2099, 2000), stored(0, 0, -1))
	own := make(impl.Rack, len(r), len(r)+2)
	begin := 0
	for lane := range r {
		end := begin + len(r[lane])
		own[lane] = array[begin:end]
		begin = end
	}
	return own, array
}

// fullLane returns a lane that is full.
func fullLane(s impl.Stored) []impl.Stored {
	return slices.Repeat([]impl.Stored{s}, impl.LaneLong)
}

// sampleRacks returns racks with every number of lanes, empty, full and in
// between, in which many bottles are alike, and many days are the same.
func sampleRacks() []impl.Rack {
	full := impl.Rack{}
	for lane := range int16(impl.MaxLanes) {
		full = append(full, fullLane(stored(1, 2000, lane)))
	}
	racks := []impl.Rack{nil, {nil}, make(impl.Rack, impl.MaxLanes), full, rackExample()}
	state := uint32(5)
	next := func(below int) int {
		state = state*1664525 + 1013904223
		return int(state>>16) % below
	}
	for round := range 400 {
		r := make(impl.Rack, round%(impl.MaxLanes+1))
		least := next(impl.LaneLong + 1)
		for lane := range r {
			for range least + next(impl.LaneLong+1-least) {
				r[lane] = append(r[lane], stored(uint8(1+next(1+round%3)), int16(2000+next(1+round%2)), int16(next(2+round%9))))
			}
		}
		racks = append(racks, r)
	}
	return racks
}

// sampleBottles returns the bottles of sampleRacks, and one that is in none.
func sampleBottles() []impl.Bottle {
	return []impl.Bottle{bottle(1, 2000), bottle(2, 2001), bottle(3, 2000), bottle(4, 2000)}
}

// invalidStored returns what is not valid as stored.
func invalidStored() []impl.Stored {
	list := []impl.Stored{{}, stored(1, 2001, -1), stored(1, 2001, 2001), stored(1, 2001, -32768), stored(1, 2001, 32767)}
	for _, b := range invalidBottles() {
		list = append(list, impl.Stored{Bottle: b, Day: 5})
	}
	return list
}

func invalidRacks() []impl.Rack {
	seven := append(fullLane(stored(1, 2001, 5)), stored(1, 2001, 5))
	racks := []impl.Rack{{seven}, {nil, seven}, make(impl.Rack, 9), make(impl.Rack, 400000), {make([]impl.Stored, 900000)}}
	for _, s := range invalidStored() {
		racks = append(racks, impl.Rack{{s}}, impl.Rack{{stored(1, 2001, 5), s}, nil}, append(rackExample(), []impl.Stored{s}))
	}
	return racks
}

// storedOf returns all that is stored, in an order of its own.
func storedOf(lists ...[]impl.Stored) []impl.Stored {
	all := slices.Concat(lists...)
	slices.SortFunc(all, func(a, b impl.Stored) int {
		return slices.Compare([]int16{int16(a.Bottle.Kind), a.Bottle.Year, a.Day}, []int16{int16(b.Bottle.Kind), b.Bottle.Year, b.Day})
	})
	return all
}

// oldestIn looks for the oldest bottle, and returns its day as well.
func oldestIn(r impl.Rack, b impl.Bottle) (day, lane, index, code int64) {
	best := []int64{9999, 0, 0}
	for lane, list := range r {
		for index, s := range list {
			if one := []int64{int64(s.Day), int64(lane), int64(index)}; s.Bottle == b && slices.Compare(one, best) < 0 {
				best = one
			}
		}
	}
	if best[0] == 9999 {
		return 0, 0, 0, impl.ErrNotFound
	}
	return best[0], best[1], best[2], impl.OK
}

// choiceIn looks for the bottle that is taken with a slack.
func choiceIn(r impl.Rack, b impl.Bottle, slack int64) (lane, index, code int64) {
	oldest, _, _, code := oldestIn(r, b)
	if code != impl.OK {
		return 0, 0, code
	}
	best := []int64{9999, 0, 0, 0}
	for lane, list := range r {
		for index, s := range list {
			one := []int64{int64(len(list) - 1 - index), int64(s.Day), int64(lane), int64(index)}
			if s.Bottle == b && int64(s.Day)-oldest <= slack && slices.Compare(one, best) < 0 {
				best = one
			}
		}
	}
	return best[2], best[3], impl.OK
}

// reachIn takes a bottle out of a copy of a rack, with what is ahead of it.
func reachIn(r impl.Rack, lane, index int64) (impl.Rack, impl.Stored, int64, int64) {
	own := copyOf(r)
	ahead := r[lane][index+1:]
	own[lane] = own[lane][:index]
	for i := len(ahead) - 1; i >= 0; i-- {
		to := -1
		for other := range own {
			if other != int(lane) && len(own[other]) < impl.LaneLong && (to < 0 || len(own[other]) < len(own[to])) {
				to = other
			}
		}
		if to < 0 {
			return nil, impl.Stored{}, 0, impl.ErrLimit
		}
		own[to] = append(own[to], ahead[i])
	}
	return own, r[lane][index], int64(len(ahead)), impl.OK
}

// takeIn takes bottles one by one.
func takeIn(r impl.Rack, wanted []impl.Bottle, slack int64) (impl.Rack, []impl.Stored, int64, int64) {
	own := copyOf(r)
	var taken []impl.Stored
	var sum int64
	for _, b := range wanted {
		lane, index, code := choiceIn(own, b, slack)
		if code != impl.OK {
			return nil, nil, 0, code
		}
		left, s, moves, code := reachIn(own, lane, index)
		if code != impl.OK {
			return nil, nil, 0, code
		}
		own, taken, sum = left, append(taken, s), sum+moves
	}
	return own, taken, sum, impl.OK
}

// turnIn tries all orders in which bottles are taken, whatever comes first.
func turnIn(r impl.Rack, wanted []impl.Bottle, slack int64) ([]int64, int64, int64) {
	var best []int64
	least, code := int64(9999), int64(impl.ErrNotFound)
	var try func(turn []int64)
	try = func(turn []int64) {
		for i := len(wanted) - 1; i >= 0; i-- {
			if !slices.Contains(turn, int64(i)) {
				try(append(slices.Clone(turn), int64(i)))
			}
		}
		if len(turn) < len(wanted) {
			return
		}
		var list []impl.Bottle
		for _, i := range turn {
			list = append(list, wanted[i])
		}
		_, _, sum, wrong := takeIn(r, list, slack)
		if wrong == impl.OK && (sum < least || sum == least && slices.Compare(turn, best) < 0) {
			best, least, code = turn, sum, impl.OK
		}
	}
	try(nil)
	if code != impl.OK {
		return nil, 0, code
	}
	return best, least, code
}

// laneFor looks for the lane in which a bottle blocks the fewest others.
func laneFor(r impl.Rack, s impl.Stored) (int64, int64) {
	best := []int64{9999, 0, 0}
	for lane, list := range r {
		blocked := int64(0)
		for _, other := range list {
			if other.Day < s.Day {
				blocked++
			}
		}
		one := []int64{blocked, int64(len(list) - impl.LaneLong), int64(lane)}
		if len(list) < impl.LaneLong && slices.Compare(one, best) < 0 {
			best = one
		}
	}
	if best[0] == 9999 {
		return 0, impl.ErrNotFound
	}
	return best[2], impl.OK
}
