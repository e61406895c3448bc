package tests

import (
	"slices"
	"testing"

	"loop.example/g01353/impl"
)

// missedIn leaves out each walk, one after the other.
func missedIn(one turning, day int64, seen impl.Row) [][2]int64 {
	var missed [][2]int64
	for i, w := range one.list {
		for other := range day + 1 {
			walk := [2]int64{int64(i), other}
			if comesOn(w, other) && string(daysIn(one, 0, day, walk)) == string(seen) {
				missed = append(missed, walk)
			}
		}
	}
	return missed
}

// P13: a walk that has been missed is among those that are told, and each one
// that is told explains what has been seen.
func TestMissedWalks(t *testing.T) {
	several := 0
	for i, one := range sampleTurnings() {
		day := int64(i*3) % 35
		rows := []impl.Row{daysIn(one, 0, day, allDays), one.r, make(impl.Row, len(one.r))}
		for j, w := range one.list {
			if j < 3 && comesOn(w, day-day%2) {
				rows = append(rows, daysIn(one, 0, day, [2]int64{int64(j), day - day%2}))
			}
		}
		for _, seen := range rows {
			missed := missedIn(one, day, seen)
			if len(missed) > 0 && missed[0][0] != missed[len(missed)-1][0] {
				several++
			}
			is(t, "missed", show(missed, 0), two(impl.MissedWalks(one.r, one.list, day, seen)))
		}
	}
	if several < 5 {
		t.Errorf("only %d rows can be explained by several walkers", several)
	}
}

// P13: also for many days.
func TestMissedWalksOfAllDays(t *testing.T) {
	for i, one := range sampleTurnings() {
		for _, day := range []int64{int64(i), 400} {
			for j, w := range one.list {
				times, _ := impl.WalksUntil(one.bottles(), w, day)
				if times == 0 {
					continue
				}
				walk := [2]int64{int64(j), int64(w.First) + int64(i)%times*int64(w.Every)}
				seen := daysIn(one, 0, day, walk)
				missed, code := impl.MissedWalks(one.r, one.list, day, seen)
				if code != impl.OK || !slices.Contains(missed, walk) || !slices.IsSortedFunc(missed, comparePairs) {
					t.Fatalf("%v of %v up to %d: got %v, %d", walk, one, day, missed, code)
				}
			}
		}
	}
}

// comparePairs is never 0, as no pair is told twice.
func comparePairs(a, b [2]int64) int {
	if order := slices.Compare(a[:], b[:]); order != 0 {
		return order
	}
	return -1
}

func TestMissedWalksEdges(t *testing.T) {
	missed := func(day int64, seen string, texts ...string) string {
		return two(impl.MissedWalks(row(t, "0000"), walkers(t, texts...), day, row(t, seen)))
	}
	is(t, "no walkers", "[] 0", missed(9, "0000"))
	is(t, "no walkers, and turned", "[] 0", missed(9, "0001"))
	is(t, "nothing missed", "[] 0", missed(1, "2000", "0/1/0/1/1/1"))
	is(t, "one of two", "[[0 0] [0 1]] 0", missed(1, "1000", "0/1/0/1/1/1"))
	is(t, "two of two", "[] 0", missed(1, "0000", "0/1/0/1/1/1"))
	is(t, "one too many", "[] 0", missed(1, "3000", "0/1/0/1/1/1"))
	is(t, "on the day itself", "[[0 3]] 0", missed(3, "0000", "3/1/0/1/1/1"))
	is(t, "ahead of the first day", "[] 0", missed(2, "0000", "3/1/0/1/1/1"))
	is(t, "a later first day", "[[0 3] [0 5]] 0", missed(6, "0100", "3/2/1/1/1/1"))
	is(t, "by less than 0", "[[0 0] [0 1] [0 2]] 0", missed(2, "0066", "0/1/2/1/2/-1"))
	is(t, "several times on a walk", "[[0 0] [0 2]] 0", missed(3, "2111", "0/2/0/3/5/1"))
	is(t, "several walkers", "[[0 1] [1 0] [1 2]] 0", missed(2, "2000", "1/5/0/1/1/1", "0/2/0/1/1/1"))
	is(t, "only one of several", "[[1 0] [1 2]] 0", missed(2, "1100", "1/5/0/1/1/1", "0/2/1/1/1/1"))
	is(t, "walks of two walkers", "[] 0", missed(2, "0100", "1/5/0/1/1/1", "0/2/1/1/1/1"))
	is(t, "the same walker twice", "[[0 0] [0 1] [1 0] [1 1]] 0", missed(1, "3000", "0/1/0/1/1/1", "0/1/0/1/1/1"))
	is(t, "two who turn the same", "[[0 0] [2 0]] 0", missed(0, "2100", "0/1/0/1/2/1", "0/1/0/1/1/1", "0/1/1/3/2/1"))
	is(t, "without a turn", "[[1 0] [1 1]] 0", missed(1, "2000", "0/1/0/1/1/1", "0/1/0/1/4/0"))
	is(t, "by a whole turn", "[[0 0] [0 1]] 0", missed(1, "0000", "0/1/0/1/32/1"))
	is(t, "no day of Every", "[[0 0] [0 100]] 0", missed(199, "1000", "0/100/0/1/1/1"))
}

func TestMissedWalksLimits(t *testing.T) {
	r, list := row(t, "0000"), walkers(t, "0/100/0/1/1/1")
	is(t, "the day MaxSpan", "[[0 0] [0 100] [0 200] [0 300] [0 400]] 0", two(impl.MissedWalks(r, list, 400, row(t, "4000"))))
	is(t, "a day more", "[] 2", two(impl.MissedWalks(r, list, 401, row(t, "4000"))))
	is(t, "MaxDay", "[] 2", two(impl.MissedWalks(r, list, 10000, row(t, "4000"))))
	many, code := impl.MissedWalks(row(t, "0"), slices.Repeat(walkers(t, "0/1/0/1/1/1"), 8), 400, row(t, "7"))
	is(t, "all walks", "3208 0 [0 0] [7 400]", len(many), code, many[0], many[len(many)-1])
	for _, day := range noDays() {
		is(t, "no day", "[] 2", two(impl.MissedWalks(r, list, day, r)))
		is(t, "no day, and a row not valid", "[] 1", two(impl.MissedWalks(r, list, day, impl.Row{0, 0, 0, 8})))
	}
	for _, seen := range append(invalidRows(), impl.Row{0, 0, 0}, impl.Row{0, 0, 0, 0, 0}, make(impl.Row, 60)) {
		is(t, "seen", "[] 1", two(impl.MissedWalks(r, list, 4, seen)))
		is(t, "seen, and no day", "[] 1", two(impl.MissedWalks(r, list, 401, seen)))
		is(t, "seen without walkers", "[] 1", two(impl.MissedWalks(r, nil, 4, seen)))
	}
}
