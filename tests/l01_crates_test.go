package tests

import (
	"math"
	"slices"
	"testing"

	"loop.example/g01353/impl"
)

const exampleText = "3:1999 - - -\n1:2001 3:1999 - -\n- - - -\n"

func exampleCrate() impl.Crate {
	return impl.Crate{0: bottle(3, 1999), 4: bottle(1, 2001), 5: bottle(3, 1999)}
}

func TestCrateExample(t *testing.T) {
	c := exampleCrate()
	read, code := impl.ReadCrate(exampleText)
	is(t, "read", show(c, 0), read, code)
	bottles, code := impl.BottlesIn(c)
	is(t, "bottles", "3 0", len(bottles), code)
	east, south, code := impl.TipOf(c)
	is(t, "tip", "-7 -1 0", east, south, code)
	sorted, code := impl.SortCrate(c)
	is(t, "sorted", show(impl.Crate{bottle(1, 2001), bottle(3, 1999), bottle(3, 1999)}, 0), sorted, code)
	level, code := impl.LevelCrate(c)
	is(t, "level", show(impl.Crate{0: bottle(3, 1999), 5: bottle(1, 2001), 11: bottle(3, 1999)}, 0), level, code)
	east, south, code = impl.TipOf(level)
	is(t, "tip of level", "-1 0 0", east, south, code)
	_, empty, code := impl.FillFrom(impl.Crate{}, c)
	is(t, "filled from", show(impl.Crate{}, 0), empty, code)
	gross, dozens, singles, code := impl.GrossOf(300)
	is(t, "gross", "2 1 0 0", gross, dozens, singles, code)
	crates, code := impl.FewestCrates(300)
	is(t, "crates", "25 0", crates, code)
}

func TestCodeName(t *testing.T) {
	names := []string{"ok", "invalid", "range", "limit", "state", "syntax", "notfound", "budget", "proof"}
	for code, name := range names {
		is(t, "name", name, impl.CodeName(int64(code)))
	}
	for _, code := range []int64{-1, 9, 256, math.MinInt64, math.MaxInt64} {
		is(t, "no name", "", impl.CodeName(code))
	}
	is(t, "codes", "0 1 2 3 4 5 6 7 8", impl.OK, impl.ErrInvalid, impl.ErrRange, impl.ErrLimit,
		impl.ErrState, impl.ErrSyntax, impl.ErrNotFound, impl.ErrBudget, impl.ErrProof)
	is(t, "limits", "12 20 1900 2099 12", impl.Places, impl.MaxKind, impl.FirstYear, impl.LastYear, impl.MaxStack)
}

func TestValidBottle(t *testing.T) {
	for kind := range 256 {
		for _, year := range []int16{-32768, 0, 1899, 1900, 1999, 2099, 2100, 32767} {
			want := kind >= 1 && kind <= 20 && year >= 1900 && year <= 2099
			is(t, "valid", show(want), impl.ValidBottle(bottle(uint8(kind), year)))
		}
	}
}

func TestValidCrateAndStack(t *testing.T) {
	for _, c := range sampleCrates() {
		is(t, "valid", "true true", impl.ValidCrate(c), impl.ValidStack([]impl.Crate{c}))
	}
	for _, c := range invalidCrates() {
		is(t, "invalid", "false false", impl.ValidCrate(c), impl.ValidStack([]impl.Crate{c}))
		is(t, "invalid last", "false", impl.ValidStack([]impl.Crate{{}, c}))
	}
	is(t, "no crates", "true true", impl.ValidStack(nil), impl.ValidStack([]impl.Crate{}))
	is(t, "limit", "true false", impl.ValidStack(make([]impl.Crate, 12)), impl.ValidStack(make([]impl.Crate, 13)))
}

func TestSameStack(t *testing.T) {
	c := exampleCrate()
	wrong := impl.Crate{11: bottle(0, 1)}
	is(t, "nil and empty", "true true", impl.SameStack(nil, []impl.Crate{}), impl.SameStack([]impl.Crate{}, nil))
	is(t, "equal", "true", impl.SameStack([]impl.Crate{c, {}}, []impl.Crate{c, {}}))
	is(t, "order", "false", impl.SameStack([]impl.Crate{c, {}}, []impl.Crate{{}, c}))
	is(t, "beginning", "false false", impl.SameStack([]impl.Crate{c}, []impl.Crate{c, {}}),
		impl.SameStack([]impl.Crate{{}}, nil))
	is(t, "invalid", "true false", impl.SameStack([]impl.Crate{wrong}, []impl.Crate{wrong}),
		impl.SameStack([]impl.Crate{wrong}, []impl.Crate{{}}))
	is(t, "many", "true", impl.SameStack(make([]impl.Crate, 13), make([]impl.Crate, 13)))
	other := c
	other[5].Year = 2000
	is(t, "year", "false", impl.SameStack([]impl.Crate{c}, []impl.Crate{other}))
}

func TestCompareBottles(t *testing.T) {
	ascending := []impl.Bottle{
		bottle(0, -32768), bottle(0, 0), bottle(1, 1899), bottle(1, 1900), bottle(1, 2099),
		bottle(2, 1900), bottle(20, 1900), bottle(200, -5), bottle(255, 32767),
	}
	for i, a := range ascending {
		for j, b := range ascending {
			want := 0
			if i < j {
				want = -1
			} else if i > j {
				want = 1
			}
			is(t, "compared", show(want), impl.CompareBottles(a, b))
		}
	}
}

func TestFreePlacesAndBottlesIn(t *testing.T) {
	places, code := impl.FreePlaces(exampleCrate())
	is(t, "free", "[1 2 3 6 7 8 9 10 11] 0", places, code)
	places, code = impl.FreePlaces(impl.Crate{})
	is(t, "all free", "[0 1 2 3 4 5 6 7 8 9 10 11] 0", places, code)
	places, code = impl.FreePlaces(fullOf(bottle(1, 2001)))
	is(t, "none free", "[] 0", places, code)
	list, code := impl.BottlesIn(impl.Crate{})
	is(t, "no bottles", "[] 0", list, code)
	for _, c := range sampleCrates() {
		list, code := impl.BottlesIn(c)
		is(t, "bottles", show(bottlesOf(c), 0), list, code)
		places, _ := impl.FreePlaces(c)
		is(t, "rest", show(12-len(list)), len(places))
	}
}

func TestPutBottle(t *testing.T) {
	b := bottle(2, 2000)
	for _, c := range sampleCrates() {
		for place := range int64(impl.Places) {
			want := c
			want[place] = b
			put, code := impl.PutBottle(c, place, b)
			if c[place].Kind != 0 {
				is(t, "not free", show(impl.Crate{}, impl.ErrState), put, code)
			} else {
				is(t, "put", show(want, 0), put, code)
			}
		}
	}
	full := fullOf(b)
	for _, place := range []int64{-1, 12, math.MinInt64, math.MaxInt64, 1 << 32} {
		put, code := impl.PutBottle(full, place, b)
		is(t, "no place", show(impl.Crate{}, impl.ErrRange), put, code)
		put, code = impl.PutBottle(full, place, impl.Bottle{})
		is(t, "invalid first", show(impl.Crate{}, impl.ErrInvalid), put, code)
		put, code = impl.PutBottle(impl.Crate{3: bottle(21, 2000)}, place, b)
		is(t, "invalid crate first", show(impl.Crate{}, impl.ErrInvalid), put, code)
	}
}

func TestTakeBottle(t *testing.T) {
	for _, c := range sampleCrates() {
		for place := range int64(impl.Places) {
			want := c
			want[place] = impl.Bottle{}
			less, taken, code := impl.TakeBottle(c, place)
			if c[place].Kind == 0 {
				is(t, "none", show(impl.Crate{}, impl.Bottle{}, impl.ErrNotFound), less, taken, code)
			} else {
				is(t, "taken", show(want, c[place], 0), less, taken, code)
			}
		}
	}
	for _, place := range []int64{-1, 12, math.MinInt64, math.MaxInt64, 1 << 32} {
		less, taken, code := impl.TakeBottle(exampleCrate(), place)
		is(t, "no place", show(impl.Crate{}, impl.Bottle{}, impl.ErrRange), less, taken, code)
		less, taken, code = impl.TakeBottle(impl.Crate{3: bottle(21, 2000)}, place)
		is(t, "invalid first", show(impl.Crate{}, impl.Bottle{}, impl.ErrInvalid), less, taken, code)
	}
}

func TestAddBottle(t *testing.T) {
	b := bottle(20, 2099)
	for _, c := range sampleCrates() {
		more, place, code := impl.AddBottle(c, b)
		free := slices.Index(c[:], impl.Bottle{})
		if free < 0 {
			is(t, "full", show(impl.Crate{}, 0, impl.ErrLimit), more, place, code)
			continue
		}
		want := c
		want[free] = b
		is(t, "added", show(want, free, 0), more, place, code)
	}
	more, place, code := impl.AddBottle(fullOf(b), impl.Bottle{})
	is(t, "invalid first", show(impl.Crate{}, 0, impl.ErrInvalid), more, place, code)
}

func TestPlaceOf(t *testing.T) {
	for _, c := range sampleCrates() {
		for _, b := range []impl.Bottle{bottle(1, 1999), bottle(2, 2000), bottle(3, 2001), bottle(20, 1900)} {
			place, code := impl.PlaceOf(c, b)
			if first := slices.Index(c[:], b); first >= 0 {
				is(t, "place", show(first, 0), place, code)
			} else {
				is(t, "no place", show(0, impl.ErrNotFound), place, code)
			}
		}
	}
	place, code := impl.PlaceOf(exampleCrate(), impl.Bottle{})
	is(t, "nothing is no bottle", show(0, impl.ErrInvalid), place, code)
}

func TestIsPure(t *testing.T) {
	for _, c := range sampleCrates() {
		list := bottlesOf(c)
		want := true
		for _, b := range list {
			want = want && b == list[0]
		}
		pure, code := impl.IsPure(c)
		is(t, "pure", show(want, 0), pure, code)
	}
	nearly := fullOf(bottle(1, 2001))
	nearly[11].Year++
	pure, code := impl.IsPure(nearly)
	is(t, "another year", "false 0", pure, code)
}

func TestSortCrate(t *testing.T) {
	for _, c := range sampleCrates() {
		var want impl.Crate
		copy(want[:], sortedOf(bottlesOf(c)))
		sorted, code := impl.SortCrate(c)
		is(t, "sorted", show(want, 0), sorted, code)
	}
}

// P2: a crate that is turned twice is as it was.
func TestTurnCrate(t *testing.T) {
	for _, c := range sampleCrates() {
		turned, code := impl.TurnCrate(c)
		for place, b := range c {
			if turned[11-place] != b {
				t.Errorf("%v turned is %v", c, turned)
			}
		}
		again, code2 := impl.TurnCrate(turned)
		is(t, "turned twice", show(c, 0, 0), again, code, code2)
		east, south, _ := impl.TipOf(c)
		is(t, "tip", show(-east, -south, 0), values(impl.TipOf(turned))...)
	}
}

func values(a, b, code int64) []any { return []any{a, b, code} }

func TestTipOf(t *testing.T) {
	easts := []int{-3, -1, 1, 3}
	for place := range impl.Places {
		want := show(easts[place%4], place/4-1, 0)
		is(t, "one bottle", want, values(impl.TipOf(crateWith(place, bottle(1, 2001))))...)
	}
	is(t, "empty", "0 0 0", values(impl.TipOf(impl.Crate{}))...)
	is(t, "full", "0 0 0", values(impl.TipOf(fullOf(bottle(1, 2001))))...)
	is(t, "row", "0 -4 0", values(impl.TipOf(impl.Crate{bottle(1, 2001), bottle(1, 2001), bottle(1, 2001), bottle(1, 2001)}))...)
}

func sizeOfTip(c impl.Crate) int64 {
	east, south, _ := impl.TipOf(c)
	return max(east, -east) + max(south, -south)
}

// placesIn returns the places of a set, ascending.
func placesIn(set int) []int {
	var list []int
	for place := range impl.Places {
		if set>>place&1 == 1 {
			list = append(list, place)
		}
	}
	return list
}

// levelChoices returns for each number of bottles the places that tip least,
// the first ones as a list, found by looking at all sets.
func levelChoices() [impl.Places + 1][]int {
	var best [impl.Places + 1][]int
	var least [impl.Places + 1]int64
	for set := range 1 << impl.Places {
		list := placesIn(set)
		var c impl.Crate
		for _, place := range list {
			c[place] = bottle(1, 2001)
		}
		n, tip := len(list), sizeOfTip(c)
		if best[n] == nil || tip < least[n] || tip == least[n] && slices.Compare(list, best[n]) < 0 {
			best[n], least[n] = list, tip
		}
	}
	return best
}

// P2: a level crate tips no more than before, nor than any other choice, and
// of several choices the one that comes first as a list is taken.
func TestLevelCrate(t *testing.T) {
	choices := levelChoices()
	for _, c := range sampleCrates() {
		bottles := bottlesOf(c)
		var want impl.Crate
		for i, place := range choices[len(bottles)] {
			want[place] = bottles[i]
		}
		level, code := impl.LevelCrate(c)
		is(t, "level", show(want, 0), level, code)
		if sizeOfTip(level) > sizeOfTip(c) {
			t.Errorf("%v tips less than %v", c, level)
		}
	}
}

func TestLevelPlaces(t *testing.T) {
	wants := map[int][]int{
		0: {}, 1: {5}, 2: {0, 11}, 3: {0, 5, 11},
		10: {0, 1, 2, 3, 4, 7, 8, 9, 10, 11}, 11: {0, 1, 2, 3, 4, 5, 7, 8, 9, 10, 11},
		12: {0, 1, 2, 3, 4, 5, 6, 7, 8, 9, 10, 11},
	}
	for n, want := range wants {
		var c impl.Crate
		for i := range n {
			c[11-i] = bottle(uint8(1+i), 1999)
		}
		level, _ := impl.LevelCrate(c)
		var places []int
		for place, b := range level {
			if b.Kind != 0 {
				places = append(places, place)
			}
		}
		is(t, "places", show(want), places)
		is(t, "order", show(bottlesOf(c)), bottlesOf(level))
	}
}

// P3: what is moved from a crate into another one is what was there.
func TestFillFrom(t *testing.T) {
	crates := sampleCrates()
	for i, a := range crates {
		b := crates[(i*5+7)%len(crates)]
		wantA, wantB := a, b
		for place := range wantB {
			free := slices.Index(wantA[:], impl.Bottle{})
			if wantB[place].Kind != 0 && free >= 0 {
				wantA[free], wantB[place] = wantB[place], impl.Bottle{}
			}
		}
		fuller, emptier, code := impl.FillFrom(a, b)
		is(t, "filled", show(wantA, wantB, 0), fuller, emptier, code)
		is(t, "kept", show(sortedOf(bottlesOf(a, b))), sortedOf(bottlesOf(fuller, emptier)))
	}
	full := fullOf(bottle(1, 2001))
	a, b, code := impl.FillFrom(full, exampleCrate())
	is(t, "full already", show(full, exampleCrate(), 0), a, b, code)
	a, b, code = impl.FillFrom(exampleCrate(), impl.Crate{})
	is(t, "nothing", show(exampleCrate(), impl.Crate{}, 0), a, b, code)
	a, b, code = impl.FillFrom(exampleCrate(), impl.Crate{11: bottle(21, 1999)})
	is(t, "second invalid", show(impl.Crate{}, impl.Crate{}, impl.ErrInvalid), a, b, code)
}

func countsOf(list []impl.Crate) []impl.Count {
	var counts []impl.Count
	for _, b := range sortedOf(bottlesOf(list...)) {
		if last := len(counts) - 1; last >= 0 && counts[last].Bottle == b {
			counts[last].Number++
		} else {
			counts = append(counts, impl.Count{Bottle: b, Number: 1})
		}
	}
	return counts
}

func TestCounts(t *testing.T) {
	for _, list := range sampleStacks() {
		want := countsOf(list)
		counts, code := impl.CountsIn(list)
		is(t, "counts", show(want, 0), counts, code)
		for _, one := range want {
			number, code := impl.CountOf(list, one.Bottle)
			is(t, "count", show(one.Number, 0), number, code)
		}
		number, code := impl.CountOf(list, bottle(19, 1950))
		is(t, "none", "0 0", number, code)
	}
	number, code := impl.CountOf(nil, impl.Bottle{})
	is(t, "nothing is no bottle", show(0, impl.ErrInvalid), number, code)
	many := slices.Repeat([]impl.Crate{fullOf(bottle(3, 1999))}, 12)
	number, code = impl.CountOf(many, bottle(3, 1999))
	is(t, "gross", "144 0", number, code)
}

// P3: bottles that are packed are those that were there.
func TestPackStack(t *testing.T) {
	for _, list := range sampleStacks() {
		bottles := sortedOf(bottlesOf(list...))
		packed, code := impl.PackStack(list)
		is(t, "kept", show(bottles, 0), bottlesOf(packed...), code)
		fewest, _ := impl.FewestCrates(int64(len(bottles)))
		is(t, "fewest", show(fewest), len(packed))
		is(t, "valid", "true", impl.ValidStack(packed))
		for i := range bottles {
			is(t, "places from 0 on", show(bottles[i]), packed[i/12][i%12])
		}
	}
	packed, code := impl.PackStack(make([]impl.Crate, 12))
	is(t, "no bottles", "[] 0", packed, code)
	c := fullOf(bottle(1, 2001))
	c[0] = impl.Bottle{}
	packed, code = impl.PackStack([]impl.Crate{c, {11: bottle(1, 2001)}})
	is(t, "exactly full", show([]impl.Crate{fullOf(bottle(1, 2001))}, 0), packed, code)
}

func TestFewestCratesAndGross(t *testing.T) {
	wants := map[int64]string{
		0: "0 0 0 0 0 0", 1: "1 0 0 0 1 0", 11: "1 0 0 0 11 0", 12: "1 0 0 1 0 0", 13: "2 0 0 1 1 0",
		143: "12 0 0 11 11 0", 144: "12 0 1 0 0 0", 145: "13 0 1 0 1 0", 300: "25 0 2 1 0 0",
		999999: "83334 0 6944 5 3 0", 1000000: "83334 0 6944 5 4 0",
		-1: "0 2 0 0 0 2", 1000001: "0 2 0 0 0 2", math.MinInt64: "0 2 0 0 0 2", math.MaxInt64: "0 2 0 0 0 2",
	}
	for bottles, want := range wants {
		crates, code := impl.FewestCrates(bottles)
		gross, dozens, singles, code2 := impl.GrossOf(bottles)
		is(t, "amount", want, crates, code, gross, dozens, singles, code2)
	}
}
