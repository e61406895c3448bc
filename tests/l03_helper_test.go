package tests

import (
	"slices"
	"testing"

	"loop.example/g01353/impl"
)

func swap(from, to int8) impl.Swap { return impl.Swap{From: from, To: to} }

// swaps returns the swaps with a text.
func swaps(t *testing.T, text string) []impl.Swap {
	t.Helper()
	list, code := impl.ReadSwaps(text)
	if code != impl.OK {
		t.Fatalf("%q is read with %d", text, code)
	}
	return list
}

// swapText returns the text of swaps, and a code.
func swapText(list []impl.Swap, code int64) string { return show(impl.SwapsText(list), code) }

// swapExample returns the crates of the chapter's example.
func swapExample() (impl.Crate, impl.Crate) { return crateOf(1, 2, 3), crateOf(2, 3, 1) }

// invalidSwaps returns such as have a number that is no place.
func invalidSwaps() []impl.Swap {
	return []impl.Swap{
		swap(12, 0), swap(0, 12), swap(-1, 0), swap(0, -1), swap(12, 12), swap(-1, -1),
		swap(127, 3), swap(3, 127), swap(-128, 3), swap(3, -128), swap(12, -1),
	}
}

// pair is two crates that have the same bottles.
type pair struct {
	a, b impl.Crate
}

// differs returns the places in which both have not the same.
func (p pair) differs() []int64 {
	var places []int64
	for place := range int64(impl.Places) {
		if p.a[place] != p.b[place] {
			places = append(places, place)
		}
	}
	return places
}

// samplePairs returns crates, and what becomes of them by some swaps: with few
// kinds and with many, with free places and without, that differ in few places
// and in many.
func samplePairs() []pair {
	state := uint32(11)
	next := func(below int) int {
		state = state*1664525 + 1013904223
		return int(state>>16) % below
	}
	pairs := []pair{{}, {fullOf(bottle(1, 1999)), fullOf(bottle(1, 1999))}}
	for round := range 600 {
		kinds := 1 + round%8
		var a impl.Crate
		for place := range a {
			if kind := next(kinds + round%3); kind < kinds {
				a[place] = bottle(uint8(1+kind/2), int16(1999+kind%2))
			}
		}
		b := a
		for range next(11) {
			i, j := next(impl.Places), next(impl.Places)
			b[i], b[j] = b[j], b[i]
		}
		pairs = append(pairs, pair{a, b})
	}
	return pairs
}

// nearPairs returns those of samplePairs that differ in at most so many places.
func nearPairs(most int) []pair {
	var near []pair
	for _, p := range samplePairs() {
		if len(p.differs()) <= most {
			near = append(near, p)
		}
	}
	return near
}

// leastOf tells how many swaps a crate needs to be b: one swap puts what is
// missing in the first wrong place there, from each place where it is wrong.
func leastOf(a, b impl.Crate, known map[impl.Crate]int64) int64 {
	if a == b {
		return 0
	}
	if n, ok := known[a]; ok {
		return n
	}
	places := pair{a, b}.differs()
	least := int64(99)
	for _, place := range places[1:] {
		if a[place] == b[places[0]] {
			c := a
			c[places[0]], c[place] = c[place], c[places[0]]
			least = min(least, 1+leastOf(c, b, known))
		}
	}
	known[a] = least
	return least
}

// allSwaps returns all swaps of two places, ordered by From, then by To.
func allSwaps() []impl.Swap {
	var list []impl.Swap
	for from := range int8(impl.Places) {
		for to := from + 1; to < impl.Places; to++ {
			list = append(list, swap(from, to))
		}
	}
	return list
}

func swapIn(c impl.Crate, s impl.Swap) impl.Crate {
	c[s.From], c[s.To] = c[s.To], c[s.From]
	return c
}

// areRings looks whether a has the same in the places of each part as b.
func areRings(p pair, parts []int64) bool {
	counts := map[int64]map[impl.Bottle]int{}
	for i, place := range p.differs() {
		if counts[parts[i]] == nil {
			counts[parts[i]] = map[impl.Bottle]int{}
		}
		counts[parts[i]][p.a[place]]++
		counts[parts[i]][p.b[place]]--
	}
	for _, one := range counts {
		for _, n := range one {
			if n != 0 {
				return false
			}
		}
	}
	return true
}

func numbersIn(parts []int64) int {
	return len(slices.Compact(slices.Sorted(slices.Values(parts))))
}
