package tests

import (
	"slices"
	"testing"

	"loop.example/g01353/impl"
)

func TestStrayIn(t *testing.T) {
	a, b := swapExample()
	list := []impl.Crate{a, b}
	x, y := bottle(1, 1999), bottle(2, 1999)
	stray := func(labels ...impl.Bottle) string { return two(impl.StrayIn(list, labels)) }
	is(t, "different ones", "4 0", stray(x, y))
	is(t, "alike ones", "4 0", stray(x, x))
	is(t, "not there", "5 0", stray(x, bottle(4, 1999)))
	is(t, "another year", "6 0", stray(bottle(1, 2000), bottle(2, 1998)))
	is(t, "too few", "0 2", stray(x))
	is(t, "too many", "0 2", stray(x, y, x))
	is(t, "none", "0 2", stray())
	is(t, "many", "0 2", stray(slices.Repeat([]impl.Bottle{x}, 400000)...))
	is(t, "label of none", "0 2", two(impl.StrayIn(nil, []impl.Bottle{x})))
	is(t, "no crates", "0 0", two(impl.StrayIn(nil, nil)))
	is(t, "empty crates", "0 0", two(impl.StrayIn(make([]impl.Crate, 2), []impl.Bottle{x, x})))
	is(t, "pure", "0 0", two(impl.StrayIn([]impl.Crate{crateOf(1, 0, 1), crateOf(2)}, []impl.Bottle{x, y})))
	for _, c := range append(invalidBottles(), impl.Bottle{}) {
		is(t, "invalid label", "0 1", stray(x, c))
		is(t, "invalid ahead of range", "0 1", stray(x, y, c))
		is(t, "invalid first one", "0 1", stray(c))
	}
	for i, list := range sampleStacks() {
		var labels []impl.Bottle
		stray := 0
		for j, c := range list {
			label := bottle(uint8(1+(i+j)%3), int16(1999+(i*j)%3))
			labels = append(labels, label)
			stray += len(bottlesOf(c)) - numberOf(label, c)
		}
		is(t, "stray", show(stray, 0), two(impl.StrayIn(list, labels)))
	}
	most := slices.Repeat([]impl.Crate{fullOf(x)}, 12)
	is(t, "12 crates", "144 0", two(impl.StrayIn(most, slices.Repeat([]impl.Bottle{y}, 12))))
}

// mostAlike tells how many bottles at most are like the labels of their crates,
// if the first crates have the given ones: label by label, set of crates by set.
func mostAlike(list []impl.Crate, all, given []impl.Bottle) int {
	const none = -1000
	start, alike := 0, 0
	for i, label := range given {
		start |= 1 << i
		alike += numberOf(label, list[i])
	}
	best := slices.Repeat([]int{none}, 1<<len(list))
	best[start] = alike
	for _, label := range all {
		if slices.Contains(given, label) {
			continue
		}
		before := slices.Clone(best)
		for set, n := range before {
			for i, c := range list {
				if set>>i&1 == 0 {
					best[set|1<<i] = max(best[set|1<<i], n+numberOf(label, c))
				}
			}
		}
	}
	return best[len(best)-1]
}

// labelsOf gives crate by crate the first label with which as many are alike.
func labelsOf(list []impl.Crate) ([]impl.Bottle, int) {
	all := slices.Compact(sortedOf(bottlesOf(list...)))
	most := mostAlike(list, all, nil)
	var labels []impl.Bottle
	for range list {
		for _, label := range all {
			more := append(slices.Clone(labels), label)
			if !slices.Contains(labels, label) && mostAlike(list, all, more) == most {
				labels = more
				break
			}
		}
	}
	return labels, len(bottlesOf(list...)) - most
}

// fewCrates returns lists of at most MaxLabels crates.
func fewCrates() [][]impl.Crate {
	lists := [][]impl.Crate{nil}
	for i, list := range sampleStacks() {
		lists = append(lists, list[:min(len(list), i%7)])
	}
	for _, p := range samplePairs() {
		lists = append(lists, []impl.Crate{p.a, p.b}, []impl.Crate{p.b, {}, p.a, p.b})
	}
	state := uint32(5)
	next := func(below int) int {
		state = state*1664525 + 1013904223
		return int(state>>16) % below
	}
	for round := range 300 {
		list := make([]impl.Crate, 2+round%5)
		for i := range list {
			for range 1 + next(14) {
				list[i][next(impl.Places)] = bottle(uint8(1+next(3+round%4)), int16(1999+next(2)))
			}
		}
		lists = append(lists, list)
	}
	return lists
}

// P8: no labels leave fewer bottles stray than the best ones, which come first
// of those.
func TestBestLabels(t *testing.T) {
	served := 0
	for _, list := range fewCrates() {
		got, stray, code := impl.BestLabels(list)
		if len(slices.Compact(sortedOf(bottlesOf(list...)))) < len(list) {
			is(t, "not found", "[] 0 6", got, stray, code)
			continue
		}
		served++
		labels, fewest := labelsOf(list)
		is(t, "best", show(labels, fewest, 0), got, stray, code)
		is(t, "stray", show(stray, 0), two(impl.StrayIn(list, got)))
	}
	if served < 400 {
		t.Errorf("only %d lists have labels", served)
	}
}

// All labels are tried where there are few.
func TestBestLabelsOfAll(t *testing.T) {
	for i, list := range fewCrates() {
		all := slices.Compact(sortedOf(bottlesOf(list...)))
		if len(list) < 1 || len(list) > 3 || len(all) < len(list) || i%3 != 0 {
			continue
		}
		got, stray, code := impl.BestLabels(list)
		is(t, "code", "0", code)
		var best []impl.Bottle
		fewest := int64(999)
		eachParts(len(list), len(all), false, func(choice []int64) {
			if numbersIn(choice) < len(choice) {
				return
			}
			var labels []impl.Bottle
			for _, n := range choice {
				labels = append(labels, all[n])
			}
			if n, _ := impl.StrayIn(list, labels); n < fewest {
				best, fewest = labels, n
			}
		})
		is(t, "best", show(best, fewest), got, stray)
	}
}

func TestBestLabelsEdges(t *testing.T) {
	best := func(list ...impl.Crate) string { return three(impl.BestLabels(list)) }
	is(t, "no crates", "[] 0 0", best())
	is(t, "an empty crate", "[] 0 6", best(impl.Crate{}))
	is(t, "pure", "[{1 1999}] 0 0", best(crateOf(1, 0, 1)))
	is(t, "first of several", "[{1 1999}] 1 0", best(crateOf(2, 1)))
	is(t, "by year", "[{1 1999}] 1 0", best(impl.Crate{bottle(1, 2000), bottle(1, 1999)}))
	is(t, "the same crates", "[{1 1999} {2 1999}] 3 0", best(crateOf(1, 1, 2), crateOf(1, 1, 2)))
	is(t, "fewer bottles", "[] 0 6", best(crateOf(1, 1, 1), crateOf(1)))
	is(t, "as many bottles", "[{2 1999} {1 1999}] 0 0", best(crateOf(2), crateOf(1)))
	is(t, "empty gets the least one", "[{1 1999} {2 1999}] 1 0", best(impl.Crate{}, crateOf(1, 2)))
	is(t, "empty gets what is left", "[{2 1999} {1 1999}] 1 0", best(impl.Crate{}, crateOf(1, 1, 2)))
	is(t, "empty gets the first one", "[{1 1999} {3 1999} {2 1999}] 2 0", best(impl.Crate{}, crateOf(3, 3, 3, 1), crateOf(2, 2, 1)))
	is(t, "label of another crate", "[{2 1999} {1 1999}] 3 0", best(crateOf(1, 1), crateOf(1, 1, 1, 1, 2)))
	is(t, "not the most of the first one", "[{2 1999} {1 1999}] 2 0", best(crateOf(1, 1, 2), crateOf(1, 1, 1)))
	is(t, "two for two others", "[{2 1999} {3 1999} {1 1999}] 6 0", best(crateOf(1, 1, 1, 2, 2), crateOf(1, 1, 3, 3), crateOf(1, 1, 1, 2)))
}

func TestBestLabelsLimits(t *testing.T) {
	var pure []impl.Crate
	for kind := range uint8(7) {
		pure = append(pure, crateOf(7-kind, 7-kind))
	}
	six := show([]impl.Bottle{bottle(7, 1999), bottle(6, 1999), bottle(5, 1999), bottle(4, 1999), bottle(3, 1999), bottle(2, 1999)}, 0, 0)
	is(t, "6 crates", six, three(impl.BestLabels(pure[:6])))
	is(t, "7 crates", "[] 0 3", three(impl.BestLabels(pure)))
	is(t, "limit ahead of not found", "[] 0 3", three(impl.BestLabels(make([]impl.Crate, 7))))
	is(t, "6 empty crates", "[] 0 6", three(impl.BestLabels(make([]impl.Crate, 6))))
	is(t, "invalid ahead of limit", "[] 0 1", three(impl.BestLabels(append(pure, invalidCrates()[0]))))
	is(t, "13 crates", "[] 0 1", three(impl.BestLabels(make([]impl.Crate, 13))))
	var many []impl.Crate
	for year := range int16(6) {
		var c impl.Crate
		for place := range c {
			c[place] = bottle(uint8(place+1), 1999+year)
		}
		many = append(many, c)
	}
	want := "[{1 1999} {1 2000} {1 2001} {1 2002} {1 2003} {1 2004}] 66 0"
	is(t, "72 different bottles", want, three(impl.BestLabels(many)))
}

func TestMostOf(t *testing.T) {
	for _, c := range sampleCrates() {
		var most impl.Bottle
		often := 0
		for _, b := range sortedOf(bottlesOf(c)) {
			if n := numberOf(b, c); n > often {
				most, often = b, n
			}
		}
		code := int64(impl.OK)
		if often == 0 {
			code = impl.ErrNotFound
		}
		is(t, "most", show(most, often, code), three(impl.MostOf(c)))
	}
	is(t, "none", "{0 0} 0 6", three(impl.MostOf(impl.Crate{})))
	is(t, "full", "{1 1999} 12 0", three(impl.MostOf(fullOf(bottle(1, 1999)))))
	is(t, "first of several", "{1 1999} 2 0", three(impl.MostOf(crateOf(2, 1, 2, 1, 3))))
	is(t, "by year", "{1 1999} 1 0", three(impl.MostOf(impl.Crate{bottle(1, 2000), bottle(1, 1999)})))
	is(t, "free places do not count", "{3 1999} 1 0", three(impl.MostOf(crateOf(0, 0, 3))))
}

func TestMixedIn(t *testing.T) {
	for _, list := range sampleStacks() {
		mixed := 0
		for _, c := range list {
			if len(slices.Compact(sortedOf(bottlesOf(c)))) > 1 {
				mixed++
			}
		}
		is(t, "mixed", show(mixed, 0), two(impl.MixedIn(list)))
	}
	a, b := swapExample()
	is(t, "none", "0 0", two(impl.MixedIn(nil)))
	is(t, "pure ones", "0 0", two(impl.MixedIn([]impl.Crate{{}, crateOf(1, 0, 1), fullOf(bottle(2, 1999))})))
	is(t, "mixed ones", "2 0", two(impl.MixedIn([]impl.Crate{a, {}, b})))
	is(t, "of two years", "1 0", two(impl.MixedIn([]impl.Crate{{bottle(1, 1999), bottle(1, 2000)}})))
	is(t, "all", "12 0", two(impl.MixedIn(slices.Repeat([]impl.Crate{a}, 12))))
}

func TestPureStack(t *testing.T) {
	for _, list := range sampleStacks() {
		var pure []impl.Crate
		for _, one := range countsOf(list) {
			for left := one.Number; left > 0; left -= impl.Places {
				var c impl.Crate
				for place := range min(left, impl.Places) {
					c[place] = one.Bottle
				}
				pure = append(pure, c)
			}
		}
		got, code := impl.PureStack(list)
		if len(pure) > impl.MaxStack {
			is(t, "limit", "[] 3", got, code)
			continue
		}
		is(t, "pure", show(pure, 0), got, code)
		is(t, "kept", show(sortedOf(bottlesOf(list...))), bottlesOf(got...))
		is(t, "none is mixed", "0 0", two(impl.MixedIn(got)))
	}
}

func TestPureStackEdges(t *testing.T) {
	pure := func(list ...impl.Crate) string { return two(impl.PureStack(list)) }
	is(t, "none", "[] 0", pure())
	is(t, "empty", "[] 0", pure(impl.Crate{}, impl.Crate{}))
	is(t, "into the first places", show([]impl.Crate{crateOf(1), crateOf(3)}, 0), pure(crateOf(0, 3, 0, 1)))
	is(t, "exactly full", show([]impl.Crate{crateOf(1, 1, 1, 1, 1, 1, 1, 1, 1, 1, 1, 1)}, 0), pure(crateOf(1, 1, 1, 1, 1, 1), crateOf(0, 0, 0, 0, 0, 0, 1, 1, 1, 1, 1, 1)))
	is(t, "one is left", show([]impl.Crate{fullOf(bottle(1, 1999)), crateOf(1), crateOf(2)}, 0), pure(crateOf(2, 1), fullOf(bottle(1, 1999))))
	var twelve impl.Crate
	for place := range twelve {
		twelve[place] = bottle(uint8(place+1), 1999)
	}
	got, code := impl.PureStack([]impl.Crate{twelve, twelve})
	is(t, "12 crates", "12 0", len(got), code)
	is(t, "13 crates", "[] 3", pure(twelve, crateOf(13)))
	is(t, "13 crates of one more", "[] 3", pure(append(slices.Repeat([]impl.Crate{fullOf(bottle(1, 1999))}, 11), crateOf(1, 2))...))
	full := slices.Repeat([]impl.Crate{fullOf(bottle(1, 1999))}, 12)
	is(t, "12 full ones", show(full, 0), pure(full...))
}
