package tests

import (
	"slices"
	"testing"

	"loop.example/g01353/impl"
)

func sampleSlacks() []int64 { return []int64{0, 1, 2, 5, 2000} }

func TestOldestOf(t *testing.T) {
	for _, r := range sampleRacks() {
		for _, b := range sampleBottles() {
			_, lane, index, code := oldestIn(r, b)
			is(t, "oldest", show(lane, index, code), three(impl.OldestOf(r, b)))
		}
	}
	oldest := func(text string) string { return three(impl.OldestOf(rack(t, text), bottle(1, 2001))) }
	is(t, "no lanes", "0 0 6", oldest(""))
	is(t, "empty lanes", "0 0 6", oldest("//"))
	is(t, "none that is alike", "0 0 6", oldest("1:2000@1 2:2001@1/1:2002@1/"))
	is(t, "least day", "1 1 0", oldest("1:2001@5 1:2001@3/1:2001@4 1:2001@2/1:2000@1/"))
	is(t, "least lane", "1 1 0", oldest("1:2001@3/2:2001@1 1:2001@2/1:2001@2/"))
	is(t, "least index", "0 1 0", oldest("1:2001@5 1:2001@2 1:2001@2/1:2001@2/"))
	is(t, "day 0", "1 0 0", oldest("1:2001@1/1:2001@0/"))
	is(t, "day 2000", "0 0 0", oldest("1:2001@2000/"))
}

func TestChoiceOf(t *testing.T) {
	for _, r := range sampleRacks() {
		for _, b := range sampleBottles() {
			for _, slack := range sampleSlacks() {
				lane, index, code := choiceIn(r, b, slack)
				is(t, "choice", show(lane, index, code), three(impl.ChoiceOf(r, b, slack)))
			}
		}
	}
}

func TestChoiceOfEdges(t *testing.T) {
	choice := func(text string, slack int64) string {
		return three(impl.ChoiceOf(rack(t, text), bottle(1, 2001), slack))
	}
	is(t, "none", "0 0 6", choice("/2:2001@1/", 2000))
	is(t, "slack reached", "1 0 0", choice("1:2001@3 2:2001@1/1:2001@6/", 3))
	is(t, "slack not reached", "0 0 0", choice("1:2001@3 2:2001@1/1:2001@6/", 2))
	is(t, "greatest slack", "1 0 0", choice("1:2001@0 2:2001@1/1:2001@2000/", 2000))
	is(t, "greatest slack but one", "0 0 0", choice("1:2001@0 2:2001@1/1:2001@2000/", 1999))
	is(t, "no slack", "1 1 0", choice("1:2001@3 2:2001@1/2:2001@1 1:2001@3/", 0))
	is(t, "slack of its own kind", "1 0 0", choice("2:2001@0 1:2001@8 2:2001@0/1:2001@9/", 1))
	is(t, "fewest ahead", "2 0 0", choice("1:2001@3 2:2001@1 2:2001@1/1:2001@3 2:2001@1/1:2001@4/", 1))
	is(t, "least day", "1 0 0", choice("1:2001@3 2:2001@1/1:2001@4/1:2001@5/", 2))
	is(t, "least day behind", "2 0 0", choice("1:2001@3 2:2001@1/1:2001@5/1:2001@4/", 2))
	is(t, "least lane", "1 1 0", choice("2:2001@1/2:2001@1 1:2001@3/1:2001@3/", 0))
	is(t, "in front of the oldest one", "0 1 0", choice("1:2001@3 1:2001@4/", 1))
	is(t, "on the same day", "0 2 0", choice("1:2001@3 1:2001@3 1:2001@3/", 0))
}

// P10: bottles that are moved are kept.
func TestReachOut(t *testing.T) {
	codes := map[int64]int{}
	for _, r := range sampleRacks() {
		for lane, list := range r {
			for index, s := range list {
				left, got, moves, code := impl.ReachOut(r, int64(lane), int64(index))
				want, _, _, _ := reachIn(r, int64(lane), int64(index))
				codes[code]++
				if code != impl.OK {
					is(t, "limit", "[] [] {{0 0} 0} 0 3", want, left, got, moves, code)
					continue
				}
				is(t, "reached", show(want, s, len(list)-1-index, 0), left, got, moves, code)
				is(t, "kept", show(storedOf(r...)), storedOf(append(left, []impl.Stored{got})...))
			}
		}
	}
	if codes[impl.OK] < 100 || codes[impl.ErrLimit] < 100 {
		t.Errorf("the samples are reached with %v", codes)
	}
}

// P10: where bottles go that are moved away.
func TestReachOutMoves(t *testing.T) {
	reach := func(text string, lane, index int64) string {
		return takenText(impl.ReachOut(rack(t, text), lane, index))
	}
	is(t, "in front", "1:2001@1// {{2 2001} 2} 0 0", reach("1:2001@1 2:2001@2//", 0, 1))
	is(t, "in front of the only lane", "1:2001@1/ {{2 2001} 2} 0 0", reach("1:2001@1 2:2001@2/", 0, 1))
	is(t, "one after the other", "/3:2001@3 2:2001@2/ {{1 2001} 1} 2 0", reach("1:2001@1 2:2001@2 3:2001@3//", 0, 0))
	is(t, "what is behind stays", "1:2001@1/3:2001@3/ {{2 2001} 2} 1 0", reach("1:2001@1 2:2001@2 3:2001@3//", 0, 1))
	is(t, "in front of others", "9:2001@9 2:2001@2// {{1 2001} 1} 1 0", reach("9:2001@9/1:2001@1 2:2001@2/", 1, 0))
}

func TestReachOutRoom(t *testing.T) {
	reach := func(text string, lane, index int64) string {
		return takenText(impl.ReachOut(rack(t, text), lane, index))
	}
	six := "9:2001@9 9:2001@9 9:2001@9 9:2001@9 9:2001@9 9:2001@9/"
	five := "9:2001@9 9:2001@9 9:2001@9 9:2001@9 9:2001@9"
	is(t, "most room", "8:2001@8//2:2001@2/ {{1 2001} 1} 1 0", reach("8:2001@8/1:2001@1 2:2001@2//", 1, 0))
	is(t, "least lane of several", "8:2001@8 2:2001@2//7:2001@7/ {{1 2001} 1} 1 0", reach("8:2001@8/1:2001@1 2:2001@2/7:2001@7/", 1, 0))
	is(t, "not its own lane", "/"+five+" 2:2001@2/ {{1 2001} 1} 1 0", reach("1:2001@1 2:2001@2/"+five+"/", 0, 0))
	is(t, "room is told anew", "6:2001@6 4:2001@4/5:2001@5 3:2001@3// {{2 2001} 2} 4 0", reach("//2:2001@2 3:2001@3 4:2001@4 5:2001@5 6:2001@6/", 2, 0))
	is(t, "last room", six+"/"+five+" 2:2001@2/ {{1 2001} 1} 1 0", reach(six+"1:2001@1 2:2001@2/"+five+"/", 1, 0))
	is(t, "one room less", " {{0 0} 0} 0 3", reach(six+"1:2001@1 2:2001@2 3:2001@3/"+five+"/", 1, 0))
	is(t, "room of its own is none", " {{0 0} 0} 0 3", reach("1:2001@1 2:2001@2/"+six, 0, 0))
	is(t, "no other lane", " {{0 0} 0} 0 3", reach("1:2001@1 2:2001@2/", 0, 0))
}

func TestReachOutErrors(t *testing.T) {
	r := rackExample()
	none := "[] {{0 0} 0} 0 2"
	for _, number := range []int64{-1, 3, 8, -1 << 63, 1<<63 - 1, 1 << 32} {
		is(t, "no lane", none, four(impl.ReachOut(r, number, 0)))
		is(t, "no index", none, four(impl.ReachOut(r, 0, number)))
	}
	is(t, "index of another lane", none, four(impl.ReachOut(r, 1, 1)))
	is(t, "empty lane", none, four(impl.ReachOut(r, 2, 0)))
	is(t, "no lanes", none, four(impl.ReachOut(nil, 0, 0)))
}

// P10: what is taken out without slack is the oldest one.
func TestTakeOldest(t *testing.T) {
	for _, r := range sampleRacks() {
		for _, b := range sampleBottles() {
			for _, slack := range sampleSlacks() {
				left, taken, sum, code := takeIn(r, []impl.Bottle{b}, slack)
				got, s, moves, codeOf := impl.TakeOldest(r, b, slack)
				if code != impl.OK {
					is(t, "error", show("[] {{0 0} 0} 0", code), got, s, moves, codeOf)
					continue
				}
				is(t, "taken", show(left, taken[0], sum, 0), got, s, moves, codeOf)
				oldest, _, _, _ := oldestIn(r, b)
				if int64(s.Day) > oldest+slack || slack == 0 && int64(s.Day) != oldest || s.Bottle != b {
					t.Errorf("%v is taken out of %v with the slack %d", s, r, slack)
				}
			}
		}
	}
}

func TestTakeOldestErrors(t *testing.T) {
	b := bottle(1, 2001)
	crammed := rack(t, "1:2001@1 2:2001@2/")
	is(t, "no room", "[] {{0 0} 0} 0 3", four(impl.TakeOldest(crammed, b, 0)))
	is(t, "none", "[] {{0 0} 0} 0 6", four(impl.TakeOldest(crammed, bottle(3, 2001), 0)))
	is(t, "no lanes", "[] {{0 0} 0} 0 6", four(impl.TakeOldest(nil, b, 0)))
	is(t, "only the choice is tried", " {{0 0} 0} 0 3", takenText(impl.TakeOldest(rack(t, "1:2001@1 2:2001@2/9:2001@1 9:2001@1 9:2001@1 9:2001@1 9:2001@1 1:2001@2/"), b, 0)))
	is(t, "the other one with slack", "1:2001@1 2:2001@2/9:2001@1/ {{1 2001} 2} 0 0", takenText(impl.TakeOldest(rack(t, "1:2001@1 2:2001@2/9:2001@1 1:2001@2/"), b, 1)))
}

func TestTakeEach(t *testing.T) {
	bottles := sampleBottles()
	codes := map[int64]int{}
	for i, r := range sampleRacks() {
		for _, slack := range sampleSlacks() {
			var wanted []impl.Bottle
			for j := range i % 7 {
				wanted = append(wanted, bottles[(i/7+j*j)%3])
			}
			left, taken, sum, code := takeIn(r, wanted, slack)
			is(t, "taken", show(left, taken, sum, code), four(impl.TakeEach(r, wanted, slack)))
			codes[code]++
			if code == impl.OK {
				is(t, "kept", show(storedOf(r...)), storedOf(append(left, taken)...))
				is(t, "fair", "0 6", two(impl.FirstUnfair(taken, slices.Concat(left...), slack)))
			}
		}
	}
	if codes[impl.OK] < 100 || codes[impl.ErrLimit] < 100 || codes[impl.ErrNotFound] < 100 {
		t.Errorf("the samples are taken with %v", codes)
	}
}

func TestTakeEachEdges(t *testing.T) {
	b, c := bottle(1, 2001), bottle(2, 2001)
	r := rackExample()
	is(t, "no bottles", lanes(r)+" [] 0 0", takenText(impl.TakeEach(r, nil, 0)))
	is(t, "no bottles, no lanes", "[] [] 0 0", four(impl.TakeEach(nil, nil, 2000)))
	is(t, "all", "/// [{{1 2001} 5} {{1 2001} 7} {{1 2001} 9} {{3 1999} 2}] 3 0", takenText(impl.TakeEach(r, []impl.Bottle{b, b, b, bottle(3, 1999)}, 0)))
	is(t, "one too many", "[] [] 0 6", four(impl.TakeEach(r, []impl.Bottle{b, b, b, b}, 0)))
	many := slices.Repeat(impl.Rack{fullLane(stored(1, 2001, 4))}, 4)
	left, taken, sum, code := impl.TakeEach(many, slices.Repeat([]impl.Bottle{b}, 20), 0)
	is(t, "20 bottles", "///1:2001@4 1:2001@4 1:2001@4 1:2001@4/ 20 0 0", takenText(left, len(taken), sum, code))
	is(t, "21 bottles", "[] [] 0 3", four(impl.TakeEach(many, slices.Repeat([]impl.Bottle{b}, 21), 0)))
	is(t, "limit ahead of not found", "[] [] 0 3", four(impl.TakeEach(nil, slices.Repeat([]impl.Bottle{b}, 21), 0)))
	crammed := rack(t, "2:2001@1 1:2001@1/")
	is(t, "limit of the first one", "[] [] 0 3", four(impl.TakeEach(crammed, []impl.Bottle{c, bottle(3, 2001)}, 0)))
	is(t, "not found of the first one", "[] [] 0 6", four(impl.TakeEach(crammed, []impl.Bottle{bottle(3, 2001), c}, 0)))
	is(t, "error of the last one", "[] [] 0 6", four(impl.TakeEach(crammed, []impl.Bottle{b, c, c}, 0)))
}

// Bottles that have been moved stay where they are, and are found there.
func TestTakeEachFindsMoved(t *testing.T) {
	r := rack(t, "1:2001@1 2:2001@2 3:2001@3//")
	wanted := []impl.Bottle{bottle(1, 2001), bottle(3, 2001)}
	is(t, "moved on", "2:2001@2// [{{1 2001} 1} {{3 2001} 3}] 3 0", takenText(impl.TakeEach(r, wanted, 0)))
	wanted = []impl.Bottle{bottle(1, 2001), bottle(2, 2001), bottle(3, 2001)}
	is(t, "in front by then", "// [{{1 2001} 1} {{2 2001} 2} {{3 2001} 3}] 2 0", takenText(impl.TakeEach(r, wanted, 0)))
}

func TestSlackErrors(t *testing.T) {
	r := rackExample()
	b := bottle(1, 2001)
	bad := []impl.Bottle{b, {}}
	for _, slack := range []int64{-1, 2001, -1 << 63, 1<<63 - 1, 1 << 32, 65536} {
		is(t, "ChoiceOf", "0 0 2", three(impl.ChoiceOf(r, b, slack)))
		is(t, "TakeOldest", "[] {{0 0} 0} 0 2", four(impl.TakeOldest(r, b, slack)))
		is(t, "TakeEach", "[] [] 0 2", four(impl.TakeEach(r, []impl.Bottle{b}, slack)))
		is(t, "TakeEach of none", "[] [] 0 2", four(impl.TakeEach(r, nil, slack)))
		is(t, "TakeEach of 21", "[] [] 0 2", four(impl.TakeEach(r, slices.Repeat([]impl.Bottle{b}, 21), slack)))
		is(t, "BestTurn", "[] 0 2", three(impl.BestTurn(r, []impl.Bottle{b}, slack)))
		is(t, "BestTurn of none", "[] 0 2", three(impl.BestTurn(nil, nil, slack)))
		is(t, "BestTurn of 6", "[] 0 2", three(impl.BestTurn(r, slices.Repeat([]impl.Bottle{b}, 6), slack)))
		is(t, "ChoiceOf ahead of not found", "0 0 2", three(impl.ChoiceOf(nil, b, slack)))
		is(t, "ChoiceOf behind invalid", "0 0 1", three(impl.ChoiceOf(r, impl.Bottle{}, slack)))
		is(t, "TakeOldest behind invalid", "[] {{0 0} 0} 0 1", four(impl.TakeOldest(r, impl.Bottle{}, slack)))
		is(t, "TakeEach behind invalid", "[] [] 0 1", four(impl.TakeEach(r, bad, slack)))
		is(t, "BestTurn behind invalid", "[] 0 1", three(impl.BestTurn(r, bad, slack)))
	}
}

func TestBestTurn(t *testing.T) {
	bottles := sampleBottles()
	codes := map[int64]int{}
	for i, r := range sampleRacks() {
		var wanted []impl.Bottle
		for j := range i % 6 {
			wanted = append(wanted, bottles[(i/6+j*j)%3])
		}
		slack := sampleSlacks()[i%5]
		turn, sum, code := turnIn(r, wanted, slack)
		is(t, "turn", show(turn, sum, code), three(impl.BestTurn(r, wanted, slack)))
		codes[code]++
	}
	if codes[impl.OK] < 30 || codes[impl.ErrNotFound] < 30 {
		t.Errorf("the samples are turned with %v", codes)
	}
}

func TestBestTurnEdges(t *testing.T) {
	b, c, d := bottle(1, 2001), bottle(2, 2001), bottle(3, 2001)
	turn := func(text string, wanted ...impl.Bottle) string {
		return three(impl.BestTurn(rack(t, text), wanted, 0))
	}
	is(t, "no bottles", "[] 0 0", turn("1:2001@1/"))
	is(t, "no bottles, no lanes", "[] 0 0", turn(""))
	is(t, "the front one first", "[1 0] 0 0", turn("1:2001@1 2:2001@1//", b, c))
	is(t, "as they are told", "[0 1] 0 0", turn("1:2001@1 2:2001@1//", c, b))
	is(t, "from the front on", "[1 2 0] 0 0", turn("1:2001@1 2:2001@1 3:2001@1//", b, d, c))
	is(t, "alike ones as they are told", "[0 1 2] 2 0", turn("1:2001@1 1:2001@2 1:2001@3//", b, b, b))
	is(t, "as good as others", "[0 1] 0 0", turn("1:2001@1/2:2001@1/", b, c))
	is(t, "an error is left out", "[1 0] 0 0", turn("1:2001@1 2:2001@1/", b, c))
	is(t, "all have an error of room", "[] 0 6", turn("1:2001@1 2:2001@1 3:2001@1/", b, c))
	is(t, "one is not there", "[] 0 6", turn("1:2001@1//", b, c))
	is(t, "too few are there", "[] 0 6", turn("1:2001@1/1:2001@1/", b, b, b))
	is(t, "5 bottles", "[0 1 2 3 4] 0 0", turn("1:2001@1 1:2001@1 1:2001@1 1:2001@1 1:2001@1/", b, b, b, b, b))
	is(t, "5 bottles backward", "[4 3 2 1 0] 0 0", turn("1:2001@1 2:2001@1 3:2001@1 1:2002@1 2:2002@1/", b, c, d, bottle(1, 2002), bottle(2, 2002)))
	is(t, "6 bottles", "[] 0 3", turn("1:2001@1 1:2001@1 1:2001@1 1:2001@1 1:2001@1 1:2001@1/", b, b, b, b, b, b))
	is(t, "limit ahead of not found", "[] 0 3", turn("", b, b, b, b, b, b))
	is(t, "many", "[] 0 3", turn("", slices.Repeat([]impl.Bottle{b}, 900000)...))
	is(t, "slack", "[0 1] 0 0", three(impl.BestTurn(rack(t, "1:2001@1 2:2001@1/1:2001@2/"), []impl.Bottle{b, c}, 1)))
}
