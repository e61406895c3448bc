package tests

import (
	"slices"
	"testing"

	"loop.example/g01353/impl"
)

func TestMoveBottle(t *testing.T) {
	for _, c := range sampleCrates() {
		for from := range int8(impl.Places) {
			for to := range int8(impl.Places) {
				got := two(impl.MoveBottle(c, swap(from, to)))
				all := two(impl.MoveAll(c, []impl.Swap{swap(from, to)}))
				want := show(swapIn(c, swap(from, to)), 0)
				if c[from] == (impl.Bottle{}) {
					want = show(impl.Crate{}, 6)
				} else if c[to] != (impl.Bottle{}) {
					want = show(impl.Crate{}, 4)
				}
				is(t, "moved", want, got)
				is(t, "moved alone", want, all)
			}
		}
	}
}

func TestMoveBottleErrors(t *testing.T) {
	a, _ := swapExample()
	none := show(impl.Crate{})
	move := func(from, to int8) string { return two(impl.MoveBottle(a, swap(from, to))) }
	is(t, "fine", show(crateOf(0, 2, 3, 1), 0), move(0, 3))
	is(t, "last place", show(impl.Crate{1: bottle(2, 1999), 2: bottle(3, 1999), 11: bottle(1, 1999)}, 0), move(0, 11))
	is(t, "no bottle", none+" 6", move(3, 4))
	is(t, "no bottle ahead of no room", none+" 6", move(3, 0))
	is(t, "no room", none+" 4", move(0, 1))
	is(t, "the same place", none+" 4", move(0, 0))
	is(t, "the same free place", none+" 6", move(5, 5))
	is(t, "alike", none+" 4", two(impl.MoveBottle(crateOf(1, 1), swap(0, 1))))
	for _, s := range invalidSwaps() {
		is(t, "range", none+" 2", two(impl.MoveBottle(a, s)))
		is(t, "range of an empty one", none+" 2", two(impl.MoveBottle(impl.Crate{}, s)))
		is(t, "range of a full one", none+" 2", two(impl.MoveBottle(fullOf(bottle(1, 1999)), s)))
		is(t, "invalid first", none+" 1", two(impl.MoveBottle(invalidCrates()[3], s)))
	}
}

func TestMoveAll(t *testing.T) {
	a, b := swapExample()
	none := show(impl.Crate{})
	moves := func(list ...impl.Swap) string { return two(impl.MoveAll(a, list)) }
	is(t, "none", show(a, 0), moves())
	is(t, "by hand", show(b, 0), two(impl.MoveAll(a, swaps(t, "0-3 1-0 2-1 3-2"))))
	is(t, "to and fro", show(a, 0), moves(swap(0, 3), swap(3, 0)))
	sixty := slices.Repeat([]impl.Swap{swap(0, 3), swap(3, 0)}, 30)
	is(t, "60", show(a, 0), moves(sixty...))
	is(t, "61", none+" 3", moves(append(sixty, swap(0, 3))...))
	is(t, "many", none+" 3", moves(slices.Repeat(sixty, 8000)...))
	for _, s := range invalidSwaps() {
		is(t, "range", none+" 2", moves(swap(0, 3), s))
		is(t, "range first", none+" 2", moves(s, swap(4, 5)))
		is(t, "no bottle first", none+" 6", moves(swap(4, 5), s))
		is(t, "no room first", none+" 4", moves(swap(0, 1), s, swap(4, 5)))
		is(t, "limit first", none+" 3", moves(append([]impl.Swap{s}, sixty...)...))
		is(t, "invalid first", none+" 1", two(impl.MoveAll(invalidCrates()[3], append([]impl.Swap{s}, sixty...))))
	}
	is(t, "the place is free by then", show(crateOf(2, 0, 3, 1), 0), moves(swap(0, 3), swap(1, 0)))
	is(t, "moved away by then", none+" 6", moves(swap(0, 3), swap(0, 4)))
	is(t, "taken by then", none+" 4", moves(swap(0, 3), swap(1, 3)))
	is(t, "the last of 60", none+" 6", moves(append(sixty[:59:59], swap(0, 4))...))
}

// movesOf moves as the document tells.
func movesOf(a, b impl.Crate) []impl.Swap {
	var list []impl.Swap
	free := impl.Bottle{}
	for a != b {
		from, to := -1, -1
		for place := range a {
			if to < 0 && a[place] == free && b[place] != free {
				to = place
			}
		}
		for place := range a {
			if to >= 0 && from < 0 && a[place] == b[to] && b[place] != a[place] {
				from = place
			}
		}
		if to < 0 {
			to = slices.Index(a[:], free)
			for place := range a {
				if from < 0 && a[place] != free && b[place] != a[place] {
					from = place
				}
			}
		}
		a[from], a[to] = free, a[from]
		list = append(list, swap(int8(from), int8(to)))
	}
	return list
}

// P7: moves by hand make a crate another one.
func TestMovesFor(t *testing.T) {
	far := 0
	for _, p := range samplePairs() {
		list, code := impl.MovesFor(p.a, p.b)
		if len(bottlesOf(p.a)) == impl.Places && p.a != p.b {
			is(t, "no room", "[] 6", list, code)
			continue
		}
		is(t, "as told", show(movesOf(p.a, p.b), 0), list, code)
		is(t, "made", show(p.b, 0), two(impl.MoveAll(p.a, list)))
		if len(p.differs()) > impl.MaxDiffer {
			far++
		}
	}
	if far < 20 {
		t.Errorf("only %d pairs differ in more than 8 places", far)
	}
}

// without returns a crate without what is in a place.
func without(c impl.Crate, place int) impl.Crate {
	c[place] = impl.Bottle{}
	return c
}

func TestMovesForEdges(t *testing.T) {
	moves := func(a, b impl.Crate) string { return swapText(impl.MovesFor(a, b)) }
	a, b := swapExample()
	is(t, "the same", " 0", moves(a, a))
	is(t, "empty", " 0", moves(impl.Crate{}, impl.Crate{}))
	full := crateOf(1, 2, 3, 4, 5, 6, 7, 8, 9, 10, 11, 12)
	other := swapIn(full, swap(0, 11))
	is(t, "full and the same", " 0", moves(full, full))
	is(t, "full and not the same", " 6", moves(full, other))
	is(t, "one free place", "0-5 11-0 5-11 0", moves(without(full, 5), without(other, 5)))
	is(t, "state ahead of not found", " 4", moves(full, fullOf(bottle(1, 1999))))
	is(t, "not the same bottles", " 4", moves(a, crateOf(2, 3, 4)))
	is(t, "one is missing", " 4", moves(a, crateOf(2, 3)))
	is(t, "from none", " 4", moves(impl.Crate{}, b))
	is(t, "alike ones stay", "0-3 0", moves(crateOf(1, 1, 1), crateOf(0, 1, 1, 1)))
	is(t, "first of alike ones", "0-2 1-3 0", moves(crateOf(1, 1), crateOf(0, 0, 1, 1)))
	is(t, "not one that is right", "1-2 0", moves(crateOf(1, 1), crateOf(1, 0, 1)))
	is(t, "first free place", "1-0 2-1 0-2 0", moves(crateOf(0, 1, 2), crateOf(0, 2, 1)))
	is(t, "filled first", "2-3 0-2 1-0 2-1 0", moves(crateOf(1, 2, 3), crateOf(2, 1, 0, 3)))
	is(t, "two rings", "0-4 1-0 4-1 2-4 3-2 4-3 0", moves(crateOf(1, 2, 3, 4), crateOf(2, 1, 4, 3)))
}
