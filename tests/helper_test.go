package tests

import (
	"fmt"
	"slices"
	"strings"
	"testing"

	"loop.example/g01353/impl"
)

// is compares results as they print, so that nil and empty slices are equal.
func is(t *testing.T, name, want string, results ...any) {
	t.Helper()
	if got := show(results...); got != want {
		t.Errorf("%s: got %s, want %s", name, got, want)
	}
}

func show(results ...any) string {
	return strings.TrimSuffix(fmt.Sprintln(results...), "\n")
}

func bottle(kind uint8, year int16) impl.Bottle {
	return impl.Bottle{Kind: kind, Year: year}
}

// fullOf returns a crate with the same bottle in every place.
func fullOf(b impl.Bottle) impl.Crate {
	var c impl.Crate
	for place := range c {
		c[place] = b
	}
	return c
}

// crateWith returns a crate with a single bottle.
func crateWith(place int, b impl.Bottle) impl.Crate {
	var c impl.Crate
	c[place] = b
	return c
}

// sampleCrates returns crates with every number of bottles, of few kinds and
// of many, always the same ones.
func sampleCrates() []impl.Crate {
	list := []impl.Crate{{}, fullOf(bottle(1, 1900)), fullOf(bottle(20, 2099))}
	for place := range impl.Places {
		list = append(list, crateWith(place, bottle(2, 2000)))
	}
	state := uint32(7)
	next := func(below int) int {
		state = state*1664525 + 1013904223
		return int(state>>16) % below
	}
	for round := range 130 {
		var c impl.Crate
		kinds := 1 + round%5
		for range round % (impl.Places + 1) {
			b := bottle(uint8(1+next(kinds)), int16(1999+next(kinds)))
			place := next(impl.Places)
			for c[place] != (impl.Bottle{}) {
				place = (place + 1) % impl.Places
			}
			c[place] = b
		}
		list = append(list, c)
	}
	return list
}

// sampleStacks returns lists of 0 to MaxStack crates.
func sampleStacks() [][]impl.Crate {
	crates := sampleCrates()
	stacks := [][]impl.Crate{nil, make([]impl.Crate, impl.MaxStack)}
	for i := range crates {
		end := min(len(crates), i+i%(impl.MaxStack+1))
		stacks = append(stacks, crates[i:end])
	}
	return append(stacks, slices.Repeat([]impl.Crate{fullOf(bottle(3, 1999))}, impl.MaxStack))
}

// invalidBottles returns such as are neither a valid bottle nor nothing.
func invalidBottles() []impl.Bottle {
	return []impl.Bottle{
		bottle(0, 1999), bottle(21, 1999), bottle(255, 1999), bottle(1, 0), bottle(20, 0),
		bottle(1, 1899), bottle(1, 2100), bottle(1, -1999), bottle(0, -1), bottle(1, 32767),
	}
}

// invalidCrates returns crates with one such bottle, in different places.
func invalidCrates() []impl.Crate {
	var list []impl.Crate
	for i, b := range invalidBottles() {
		list = append(list, crateWith(i, b))
		c := fullOf(bottle(1, 2001))
		c[impl.Places-1-i] = b
		list = append(list, c)
	}
	return list
}

// bottlesOf returns the bottles of crates, in the order of their places.
func bottlesOf(list ...impl.Crate) []impl.Bottle {
	var bottles []impl.Bottle
	for _, c := range list {
		for _, b := range c {
			if b.Kind != 0 {
				bottles = append(bottles, b)
			}
		}
	}
	return bottles
}

// sortedOf returns the same bottles, by kind and then by year.
func sortedOf(bottles []impl.Bottle) []impl.Bottle {
	sorted := slices.Clone(bottles)
	slices.SortFunc(sorted, func(a, b impl.Bottle) int {
		return int(a.Kind)*10000 + int(a.Year) - int(b.Kind)*10000 - int(b.Year)
	})
	return sorted
}
