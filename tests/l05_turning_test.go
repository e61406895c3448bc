package tests

import (
	"math"
	"slices"
	"testing"

	"loop.example/g01353/impl"
)

func TestTurningLimits(t *testing.T) {
	is(t, "limits", "60 8 10000 400", impl.MaxRow, impl.MaxWalkers, impl.MaxDay, impl.MaxSpan)
}

func TestTurningExample(t *testing.T) {
	r, w, other := row(t, "0000"), walker(t, "0/2/0/2/2/1"), walker(t, "1/3/0/1/1/4")
	list := []impl.Walker{w}
	for day := range int64(10) {
		is(t, "comes", show(day%2 == 0, 0), two(impl.WalksOn(4, w, day)))
	}
	is(t, "turned", "1010 0", rowText(impl.DayOf(r, list, 0)))
	is(t, "behind the day 4", "3030 0", rowText(impl.RowOn(r, list, 4)))
	is(t, "repeats", "16 0", two(impl.RepeatsBehind(4, list)))
	is(t, "upright", "[14 15 30 31] 0", two(impl.UprightDays(r, list, 0, 31)))
	is(t, "never", "[1 3] 0", two(impl.NeverTurned(4, list)))
	is(t, "meeting", "4 0", two(impl.MeetingDay(4, w, other, 0)))
	is(t, "none missed", "[] 0", two(impl.MissedWalks(r, list, 4, row(t, "2030"))))
	is(t, "missed", "[[0 0] [0 2] [0 4]] 0", two(impl.MissedWalks(r, list, 4, row(t, "2020"))))
}

func TestValidRow(t *testing.T) {
	for _, one := range sampleTurnings() {
		is(t, "valid", "true", impl.ValidRow(one.r))
	}
	for _, r := range invalidRows() {
		is(t, "invalid", "false", impl.ValidRow(r))
	}
	is(t, "all numbers", "true", impl.ValidRow(impl.Row{0, 1, 2, 3, 4, 5, 6, 7}))
	is(t, "lengths", "true true false false", impl.ValidRow(make(impl.Row, 1)), impl.ValidRow(make(impl.Row, 60)), impl.ValidRow(make(impl.Row, 61)), impl.ValidRow(impl.Row{}))
}

func TestSameRow(t *testing.T) {
	rows := invalidRows()
	for _, one := range sampleTurnings() {
		rows = append(rows, one.r)
	}
	for i, r := range rows {
		other := rows[(i+1)%len(rows)]
		is(t, "itself", "true", impl.SameRow(r, slices.Clone(r)))
		is(t, "another one", show(string(r) == string(other)), impl.SameRow(r, other))
	}
	is(t, "nil and empty", "true true", impl.SameRow(nil, impl.Row{}), impl.SameRow(impl.Row{}, nil))
	is(t, "one less", "false false", impl.SameRow(impl.Row{1, 2}, impl.Row{1}), impl.SameRow(nil, impl.Row{0}))
	is(t, "not valid, and different", "false", impl.SameRow(impl.Row{8}, impl.Row{0}))
}

func TestValidWalkers(t *testing.T) {
	for _, one := range sampleTurnings() {
		is(t, "valid", "true", impl.ValidWalkers(one.bottles(), one.list))
	}
	fine := walker(t, "0/1/0/0/1/1")
	for _, w := range invalidWalkers(t) {
		is(t, "invalid", "false false false", impl.ValidWalkers(60, []impl.Walker{w}), impl.ValidWalkers(60, []impl.Walker{fine, w}), impl.ValidWalkers(1, []impl.Walker{w, fine}))
	}
	for _, bottles := range noRows() {
		is(t, "no row", "false false", impl.ValidWalkers(bottles, nil), impl.ValidWalkers(bottles, []impl.Walker{fine}))
	}
	for _, text := range []string{"10000/1/0/0/1/0", "0/100/0/0/1/0", "0/1/6/0/1/0", "0/1/0/60/1/0", "0/1/0/0/60/0", "0/1/0/0/1/7", "0/1/0/0/1/-7"} {
		is(t, "limits reached", "true", impl.ValidWalkers(7, walkers(t, text)))
	}
	is(t, "no walkers", "true true", impl.ValidWalkers(1, nil), impl.ValidWalkers(60, []impl.Walker{}))
	is(t, "Start", "true false", impl.ValidWalkers(7, walkers(t, "0/1/6/0/1/1")), impl.ValidWalkers(7, walkers(t, "0/1/7/0/1/1")))
	is(t, "8 and 9", "true false", impl.ValidWalkers(7, slices.Repeat([]impl.Walker{fine}, 8)), impl.ValidWalkers(7, slices.Repeat([]impl.Walker{fine}, 9)))
	is(t, "very many", "false", impl.ValidWalkers(7, make([]impl.Walker, 100000)))
}

// A bottle that is turned eight times by the same is as it was.
func TestTurnBottle(t *testing.T) {
	for _, one := range sampleTurnings() {
		for by := int64(-7); by <= 7; by++ {
			place := (by + 7) * 5 % one.bottles()
			want := slices.Clone(one.r)
			want[place] = uint8((int64(want[place]) + by + 8) % 8)
			is(t, "turned", show(want, 0), two(impl.TurnBottle(one.r, place, by)))
			r := one.r
			for range 8 {
				r, _ = impl.TurnBottle(r, place, by)
			}
			is(t, "eight times", show(one.r), r)
			back, _ := impl.TurnBottle(want, place, -by)
			is(t, "back", show(one.r), back)
		}
	}
	r := row(t, "0707")
	is(t, "ahead of 0", "0007 0", rowText(impl.TurnBottle(r, 1, 1)))
	is(t, "behind 7", "7707 0", rowText(impl.TurnBottle(r, 0, -1)))
	is(t, "the last one", "0700 0", rowText(impl.TurnBottle(r, 3, -7)))
	for _, place := range []int64{-1, 4, math.MinInt64, math.MaxInt64} {
		is(t, "no place", "[] 2", two(impl.TurnBottle(r, place, 1)))
	}
	for _, by := range []int64{-8, 8, math.MinInt64, math.MaxInt64} {
		is(t, "by", "[] 2", two(impl.TurnBottle(r, 0, by)))
	}
	is(t, "ErrInvalid is first", "[] 1", two(impl.TurnBottle(impl.Row{8}, 1, 8)))
}

func TestVisitsOf(t *testing.T) {
	for _, one := range sampleTurnings() {
		for _, w := range one.list {
			visits := make([]int64, one.bottles())
			w.Turn = 1
			for place := range visits {
				// Bottles are told from each other, and are turned by less than a whole turn at once.
				for first := int16(0); first < w.Count; first += 7 {
					part := w
					part.Count = min(7, w.Count-first)
					part.Start = int16((int64(w.Start) + int64(first)*int64(w.Step)) % one.bottles())
					r := make(impl.Row, one.bottles())
					walkIn(r, part)
					visits[place] += int64(r[place])
				}
			}
			is(t, "visits", show(visits, 0), two(impl.VisitsOf(one.bottles(), w)))
		}
	}
	visits := func(bottles int64, text string) string { return two(impl.VisitsOf(bottles, walker(t, text))) }
	is(t, "one by one", "[0 1 1 1 0] 0", visits(5, "0/1/1/1/3/1"))
	is(t, "at the beginning again", "[1 1 0 1 1] 0", visits(5, "0/1/3/1/4/1"))
	is(t, "several times", "[3 2 2 2 2] 0", visits(5, "0/1/0/1/11/1"))
	is(t, "the same bottle", "[0 0 60 0 0] 0", visits(5, "0/1/2/0/60/1"))
	is(t, "a whole row ahead", "[0 0 4 0 0] 0", visits(5, "0/1/2/5/4/1"))
	is(t, "more than a row ahead", "[1 1 1 1 0] 0", visits(5, "0/1/2/13/4/1"))
	is(t, "a single bottle", "[60] 0", visits(1, "0/1/0/60/60/1"))
	is(t, "without a turn", "[1 0 1] 0", visits(3, "9/1/0/2/2/0"))
}

func TestWalks(t *testing.T) {
	for i, one := range sampleTurnings() {
		for j, w := range one.list {
			times := 0
			for day := range int64(700) {
				on := comesOn(w, day)
				if on {
					times++
				}
				if on || (day+int64(i+j))%9 == 0 {
					is(t, "on", show(on, 0), two(impl.WalksOn(one.bottles(), w, day)))
					is(t, "until", show(times, 0), two(impl.WalksUntil(one.bottles(), w, day)))
				}
			}
		}
	}
	on := func(text string, day int64) string {
		return two(impl.WalksOn(9, walker(t, text), day)) + " " + two(impl.WalksUntil(9, walker(t, text), day))
	}
	is(t, "the first day", "true 0 1 0", on("0/100/0/1/1/1", 0))
	is(t, "ahead of it", "false 0 0 0", on("5/5/0/1/1/1", 0))
	is(t, "the day before", "false 0 0 0", on("5/1/0/1/1/1", 4))
	is(t, "it", "true 0 1 0", on("5/5/0/1/1/1", 5))
	is(t, "the day behind", "false 0 1 0", on("5/5/0/1/1/1", 6))
	is(t, "every day", "true 0 10001 0", on("0/1/0/1/1/1", 10000))
	is(t, "the last day", "true 0 1 0", on("10000/1/0/1/1/1", 10000))
	is(t, "ahead of the last day", "false 0 0 0", on("10000/1/0/1/1/1", 9999))
	is(t, "every 100 days", "true 0 101 0", on("0/100/0/1/1/1", 10000))
	for _, day := range noDays() {
		is(t, "no day", "false 2 0 2", on("0/1/0/1/1/1", day))
		is(t, "ErrInvalid is first", "false 1 0 1", on("0/0/0/1/1/1", day))
	}
}

func TestNeverTurned(t *testing.T) {
	some := 0
	for _, one := range sampleTurnings() {
		var never []int64
		for place := range one.bottles() {
			come := false
			for _, w := range one.list {
				visits, _ := impl.VisitsOf(one.bottles(), w)
				come = come || visits[place] > 0
			}
			if !come {
				never = append(never, place)
			}
		}
		some += len(never)
		is(t, "never", show(never, 0), two(impl.NeverTurned(one.bottles(), one.list)))
	}
	if some == 0 {
		t.Error("the samples turn all bottles")
	}
	is(t, "no walkers", "[0 1 2] 0", two(impl.NeverTurned(3, nil)))
	is(t, "come to without a turn", "[0 2] 0", two(impl.NeverTurned(3, walkers(t, "10000/1/1/3/5/0"))))
	is(t, "of several", "[2] 0", two(impl.NeverTurned(4, walkers(t, "0/1/1/2/2/1", "0/1/0/4/9/1"))))
	is(t, "all", "[] 0", two(impl.NeverTurned(4, walkers(t, "0/1/1/3/4/1"))))
}
