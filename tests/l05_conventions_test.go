package tests

import (
	"slices"
	"sync"
	"testing"

	"loop.example/g01353/impl"
)

// turningCall is a call of a function of chapter 5, and what it returns if the
// row or the walkers are not valid.
type turningCall struct {
	name    string
	invalid string
	run     func(one turning) string
}

// firstWalker returns the first walker, or one who is fine.
func firstWalker(one turning) impl.Walker {
	if len(one.list) == 0 {
		return impl.Walker{Every: 3, Count: 2, Turn: 1}
	}
	return one.list[0]
}

// lastWalker returns the last walker, or one who is fine.
func lastWalker(one turning) impl.Walker {
	if len(one.list) == 0 {
		return impl.Walker{First: 4, Every: 2, Count: 2, Turn: 1}
	}
	return one.list[len(one.list)-1]
}

// listCalls are calls that get a row of some bottles and a list of walkers.
func listCalls() []turningCall {
	return []turningCall{
		{"DayOf", "[] 1", func(one turning) string { return two(impl.DayOf(one.r, one.list, 4)) }},
		{"DayOf no day", "[] 1", func(one turning) string { return two(impl.DayOf(one.r, one.list, 10001)) }},
		{"DaysOf", "[] 1", func(one turning) string { return two(impl.DaysOf(one.r, one.list, 3, 40)) }},
		{"DaysOf too many", "[] 1", func(one turning) string { return two(impl.DaysOf(one.r, one.list, 3, 404)) }},
		{"DaysOf none", "[] 1", func(one turning) string { return two(impl.DaysOf(one.r, one.list, 4, 3)) }},
		{"RowOn", "[] 1", func(one turning) string { return two(impl.RowOn(one.r, one.list, 40)) }},
		{"RowOn no day", "[] 1", func(one turning) string { return two(impl.RowOn(one.r, one.list, -1)) }},
		{"UprightDays", "[] 1", func(one turning) string { return two(impl.UprightDays(one.r, one.list, 3, 40)) }},
		{"UprightDays too many", "[] 1", func(one turning) string { return two(impl.UprightDays(one.r, one.list, 0, 10000)) }},
		{"NeverTurned", "[] 1", func(one turning) string { return two(impl.NeverTurned(one.bottles(), one.list)) }},
		{"AllWalkEvery", "0 1", func(one turning) string { return two(impl.AllWalkEvery(one.bottles(), one.list)) }},
		{"RepeatsBehind", "0 1", func(one turning) string { return two(impl.RepeatsBehind(one.bottles(), one.list)) }},
		{"MissedWalks", "[] 1", func(one turning) string { return two(impl.MissedWalks(one.r, one.list, 5, one.r)) }},
		{"MissedWalks no day", "[] 1", func(one turning) string { return two(impl.MissedWalks(one.r, one.list, 401, one.r)) }},
		{"BusiestDay", "0 0 1", func(one turning) string { return three(impl.BusiestDay(one.bottles(), one.list, 3, 40)) }},
		{"BusiestDay no day", "0 0 1", func(one turning) string { return three(impl.BusiestDay(one.bottles(), one.list, -1, 40)) }},
	}
}

// walkerCalls are calls that get a number of bottles and a single walker.
func walkerCalls() []turningCall {
	fine := impl.Walker{Every: 2, Count: 1}
	return []turningCall{
		{"VisitsOf", "[] 1", func(one turning) string { return two(impl.VisitsOf(one.bottles(), lastWalker(one))) }},
		{"WalksOn", "false 1", func(one turning) string { return two(impl.WalksOn(one.bottles(), lastWalker(one), 4)) }},
		{"WalksOn no day", "false 1", func(one turning) string { return two(impl.WalksOn(one.bottles(), lastWalker(one), -1)) }},
		{"WalksUntil", "0 1", func(one turning) string { return two(impl.WalksUntil(one.bottles(), lastWalker(one), 40)) }},
		{"WalksUntil no day", "0 1", func(one turning) string { return two(impl.WalksUntil(one.bottles(), lastWalker(one), 10001)) }},
		{"MeetingDay", "0 1", func(one turning) string { return two(impl.MeetingDay(one.bottles(), lastWalker(one), fine, 4)) }},
		{"MeetingDay no day", "0 1", func(one turning) string {
			return two(impl.MeetingDay(one.bottles(), lastWalker(one), firstWalker(one), -1))
		}},
		{"MeetingDay behind", "0 1", func(one turning) string { return two(impl.MeetingDay(one.bottles(), fine, lastWalker(one), 4)) }},
	}
}

// rowCalls are calls that get a row alone, beside others.
func rowCalls() []turningCall {
	return []turningCall{
		{"ValidRow", "false", func(one turning) string { return show(impl.ValidRow(one.r)) }},
		{"TurnBottle", "[] 1", func(one turning) string { return two(impl.TurnBottle(one.r, 0, 3)) }},
		{"TurnBottle no place", "[] 1", func(one turning) string { return two(impl.TurnBottle(one.r, -1, 8)) }},
		{"RowText", "", func(one turning) string { return impl.RowText(one.r) }},
	}
}

func allTurningCalls() []turningCall {
	return slices.Concat(listCalls(), walkerCalls(), rowCalls())
}

// P1: ErrInvalid comes first, and all other results are zero values then.
func TestInvalidRowsOfTurning(t *testing.T) {
	fine := walkers(t, "0/2/0/1/1/1")
	numbers := []string{"NeverTurned", "AllWalkEvery", "RepeatsBehind", "BusiestDay", "BusiestDay no day"}
	for _, r := range invalidRows() {
		for _, one := range slices.Concat(listCalls(), rowCalls()) {
			// Some get no row, but only how many bottles it has.
			if slices.Contains(numbers, one.name) && len(r) >= 1 && len(r) <= 60 {
				continue
			}
			is(t, one.name, one.invalid, one.run(turning{r, fine}))
			is(t, one.name+" without walkers", one.invalid, one.run(turning{r, nil}))
		}
	}
}

func TestInvalidWalkersOfTurning(t *testing.T) {
	r, fine := row(t, "0123"), walker(t, "0/2/0/1/1/1")
	for _, w := range append(invalidWalkers(t), walker(t, "0/1/4/0/1/1")) {
		for _, one := range listCalls() {
			is(t, one.name, one.invalid, one.run(turning{r, []impl.Walker{w}}))
			is(t, one.name+" ahead", one.invalid, one.run(turning{r, []impl.Walker{w, fine}}))
		}
		for _, one := range slices.Concat(listCalls(), walkerCalls()) {
			is(t, one.name+" behind", one.invalid, one.run(turning{r, []impl.Walker{fine, w}}))
		}
	}
	for _, one := range listCalls() {
		is(t, one.name+" of 9", one.invalid, one.run(turning{r, slices.Repeat([]impl.Walker{fine}, 9)}))
		is(t, one.name+" of many", one.invalid, one.run(turning{r, make([]impl.Walker, 160000)}))
	}
}

func TestInvalidNumbersOfBottles(t *testing.T) {
	w := walker(t, "0/2/0/1/1/1")
	list := []impl.Walker{w}
	for _, bottles := range noRows() {
		for _, day := range []int64{0, -1, 401, 10001} {
			is(t, "VisitsOf", "[] 1", two(impl.VisitsOf(bottles, w)))
			is(t, "WalksOn", "false 1", two(impl.WalksOn(bottles, w, day)))
			is(t, "WalksUntil", "0 1", two(impl.WalksUntil(bottles, w, day)))
			is(t, "MeetingDay", "0 1", two(impl.MeetingDay(bottles, w, w, day)))
			is(t, "BusiestDay", "0 0 1", three(impl.BusiestDay(bottles, list, 0, day)))
			is(t, "BusiestDay of none", "0 0 1", three(impl.BusiestDay(bottles, nil, 0, day)))
		}
		for _, some := range [][]impl.Walker{list, nil} {
			is(t, "NeverTurned", "[] 1", two(impl.NeverTurned(bottles, some)))
			is(t, "AllWalkEvery", "0 1", two(impl.AllWalkEvery(bottles, some)))
			is(t, "RepeatsBehind", "0 1", two(impl.RepeatsBehind(bottles, some)))
		}
	}
}

// closeTurning returns the same, with something else as unused capacity.
func closeTurning(one turning) (near turning, rows impl.Row, list []impl.Walker) {
	rows = append(slices.Clone(one.r), 9, 200, 3)
	list = append(slices.Clone(one.list), impl.Walker{First: -7}, impl.Walker{Turn: 99})
	return turning{rows[:len(one.r)], list[:len(one.list)]}, rows, list
}

// P1: arguments are not modified, nor is the unused capacity of a slice, and
// results are equal for equal arguments.
func TestTurningArgumentsAreKept(t *testing.T) {
	for _, one := range sampleTurnings() {
		near, rows, list := closeTurning(one)
		before := show(rows, list)
		for _, call := range allTurningCalls() {
			is(t, call.name, call.run(one), call.run(near))
			is(t, call.name+" keeps", before, show(rows, list))
		}
		seen := slices.Clone(rows)
		impl.MissedWalks(near.r, near.list, 9, seen[:len(one.r)])
		impl.SameRow(seen[:len(one.r)], near.r)
		impl.ValidWalkers(one.bottles(), near.list)
		is(t, "seen", show(rows), seen)
		is(t, "kept", before, show(rows, list))
	}
}

func TestNoWalkersOfTurning(t *testing.T) {
	for _, call := range allTurningCalls() {
		r := row(t, "0707")
		is(t, call.name, call.run(turning{r, nil}), call.run(turning{r, []impl.Walker{}}))
		is(t, call.name+" without a row", call.run(turning{nil, nil}), call.run(turning{impl.Row{}, nil}))
	}
}

// P1: a list that has been returned shares no memory with an argument or another one.
func TestTurningResultsAreNew(t *testing.T) {
	idle := walkers(t, "0/1/0/1/1/1", "0/2/0/1/1/0") // all walks of the second one can be missed
	for _, one := range sampleTurnings()[:40] {
		near, rows, list := closeTurning(one)
		before := show(rows, list)
		spoil(t, "TurnBottle", func() []uint8 { r, _ := impl.TurnBottle(near.r, 0, 1); return r })
		spoil(t, "TurnBottle by 0", func() []uint8 { r, _ := impl.TurnBottle(near.r, 0, 0); return r })
		spoil(t, "DayOf", func() []uint8 { r, _ := impl.DayOf(near.r, near.list, 4); return r })
		spoil(t, "DayOf nobody", func() []uint8 { r, _ := impl.DayOf(near.r, nil, 4); return r })
		spoil(t, "DaysOf", func() []uint8 { r, _ := impl.DaysOf(near.r, near.list, 4, 9); return r })
		spoil(t, "RowOn", func() []uint8 { r, _ := impl.RowOn(near.r, near.list, 4); return r })
		spoil(t, "UprightDays", func() []int64 { days, _ := impl.UprightDays(near.r, near.list, 0, 99); return days })
		spoil(t, "NeverTurned", func() []int64 { places, _ := impl.NeverTurned(near.bottles(), near.list); return places })
		spoil(t, "VisitsOf", func() []int64 { visits, _ := impl.VisitsOf(near.bottles(), lastWalker(near)); return visits })
		spoil(t, "ReadRow", func() []uint8 { r, _ := impl.ReadRow(impl.RowText(near.r)); return r })
		spoil(t, "MissedWalks", func() [][2]int64 {
			seen, _ := impl.RowOn(near.r, idle, 9)
			walks, _ := impl.MissedWalks(near.r, idle, 9, seen)
			return walks
		})
		is(t, "arguments", before, show(rows, list))
	}
}

// P1: results are the same while others call as well.
func TestTurningAtTheSameTime(t *testing.T) {
	samples := sampleTurnings()[:60]
	var calls sync.WaitGroup
	for _, one := range samples {
		want, _ := impl.UprightDays(one.r, one.list, 0, 300)
		calls.Go(func() {
			for range 5 {
				got, _ := impl.UprightDays(one.r, one.list, 0, 300)
				if !slices.Equal(got, want) {
					t.Errorf("got %v, want %v", got, want)
				}
			}
		})
	}
	calls.Wait()
}
