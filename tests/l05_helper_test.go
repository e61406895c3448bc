package tests

import (
	"fmt"
	"math"
	"slices"
	"testing"

	"loop.example/g01353/impl"
)

// walkers returns the walkers with some texts.
func walkers(t *testing.T, texts ...string) []impl.Walker {
	t.Helper()
	var list []impl.Walker
	for _, text := range texts {
		var w impl.Walker
		if _, err := fmt.Sscanf(text, "%d/%d/%d/%d/%d/%d", &w.First, &w.Every, &w.Start, &w.Step, &w.Count, &w.Turn); err != nil {
			t.Fatalf("%q is no walker: %v", text, err)
		}
		list = append(list, w)
	}
	return list
}

func walker(t *testing.T, text string) impl.Walker {
	t.Helper()
	return walkers(t, text)[0]
}

// row returns the row with a text.
func row(t *testing.T, text string) impl.Row {
	t.Helper()
	r, code := impl.ReadRow(text)
	if code != impl.OK {
		t.Fatalf("%q is read with %d", text, code)
	}
	return r
}

// rowText returns the text of a row, and a code.
func rowText(r impl.Row, code int64) string { return show(impl.RowText(r), code) }

// turning is a row, and walkers who come to it.
type turning struct {
	r    impl.Row
	list []impl.Walker
}

func (one turning) bottles() int64 { return int64(len(one.r)) }

// begun returns the first day on which all have begun.
func (one turning) begun() int64 {
	var day int64
	for _, w := range one.list {
		day = max(day, int64(w.First))
	}
	return day
}

// randomWalker returns a walker with numbers that are at most as told.
func randomWalker(next func(below int) int, bottles, first, every int) impl.Walker {
	return impl.Walker{
		First: int16(next(first + 1)), Every: int16(1 + next(every)), Start: int16(next(bottles)),
		Step: int16(next(impl.MaxRow + 1)), Count: int16(1 + next(impl.MaxRow)), Turn: int8(next(15) - 7),
	}
}

// sampleTurnings returns rows of all lengths with 0 to MaxWalkers walkers, some
// of whom come often and soon, and some rarely and late.
func sampleTurnings() []turning {
	state := uint32(17)
	next := func(below int) int {
		state = state*1664525 + 1013904223
		return int(state>>16) % below
	}
	samples := limitTurnings()
	for round := range 300 {
		r := make(impl.Row, 1+round%impl.MaxRow)
		if round%3 > 0 {
			for place := range r {
				r[place] = uint8(next(8))
			}
		}
		first, every := 30, 1+round%12
		if round%7 == 0 {
			first, every = 600, 100
		}
		var list []impl.Walker
		for range round % (impl.MaxWalkers + 1) {
			w := randomWalker(next, len(r), first, every)
			if round%4 == 0 { // few bottles, so that some are never turned
				w.Count = 1 + w.Count%3
			}
			list = append(list, w)
		}
		samples = append(samples, turning{r, list})
	}
	return samples
}

// limitTurnings returns rows and walkers whose numbers are on their limits.
func limitTurnings() []turning {
	long, least := make(impl.Row, 60), impl.Walker{Every: 1, Count: 1}
	most := impl.Walker{First: 10000, Every: 100, Start: 59, Step: 60, Count: 60, Turn: 7}
	back := impl.Walker{First: 0, Every: 1, Start: 59, Step: 59, Count: 60, Turn: -7}
	sevens := slices.Repeat(impl.Row{7}, 60)
	return []turning{
		{impl.Row{0}, nil}, {impl.Row{7}, []impl.Walker{least}}, {long, nil}, {sevens, nil}, {long, []impl.Walker{least, most, back}},
		{sevens, slices.Repeat([]impl.Walker{most}, 8)}, {sevens, slices.Repeat([]impl.Walker{back}, 8)},
		{impl.Row{3}, []impl.Walker{{Every: 3, Step: 60, Count: 60, Turn: -1}, {First: 2, Every: 100, Count: 7, Turn: 7}}},
	}
}

func invalidRows() []impl.Row {
	rows := []impl.Row{nil, {8}, {255}, {0, 8}, {8, 0}, {'0'}, make(impl.Row, 61), make(impl.Row, 900000)}
	last := make(impl.Row, 60)
	last[59] = 8
	return append(rows, last)
}

// invalidWalkers returns such as are not valid for any row.
func invalidWalkers(t *testing.T) []impl.Walker {
	return walkers(t,
		"-1/1/0/0/1/1", "10001/1/0/0/1/1", "-32768/1/0/0/1/1", "32767/1/0/0/1/1",
		"0/0/0/0/1/1", "0/-1/0/0/1/1", "0/101/0/0/1/1", "0/-32768/0/0/1/1", "0/32767/0/0/1/1",
		"0/1/-1/0/1/1", "0/1/60/0/1/1", "0/1/-32768/0/1/1", "0/1/32767/0/1/1",
		"0/1/0/-1/1/1", "0/1/0/61/1/1", "0/1/0/-32768/1/1", "0/1/0/32767/1/1",
		"0/1/0/0/0/1", "0/1/0/0/-1/1", "0/1/0/0/61/1", "0/1/0/0/-32768/1", "0/1/0/0/32767/1",
		"0/1/0/0/1/8", "0/1/0/0/1/-8", "0/1/0/0/1/127", "0/1/0/0/1/-128", "0/0/0/0/0/0",
	)
}

// noRows returns numbers of bottles of which there is no row.
func noRows() []int64 { return []int64{0, -1, 61, 1 << 40, math.MinInt64, math.MaxInt64} }

// noDays returns what is no day.
func noDays() []int64 { return []int64{-1, 10001, 1 << 40, math.MinInt64, math.MaxInt64} }

// comesOn looks whether a walker comes on a day, from walk to walk.
func comesOn(w impl.Walker, day int64) bool {
	next := int64(w.First)
	for next < day {
		next += int64(w.Every)
	}
	return next == day
}

// walkIn makes one walk, in which it goes from place to place, and turns each
// bottle eighth by eighth.
func walkIn(r impl.Row, w impl.Walker) {
	place := int(w.Start)
	for range w.Count {
		for range (w.Turn + 8) % 8 {
			r[place]++
			if r[place] == 8 {
				r[place] = 0
			}
		}
		for range w.Step {
			place++
			if place == len(r) {
				place = 0
			}
		}
	}
}

// daysIn goes from day to day, and leaves out one walk of a walker (there is
// none of -1).
func daysIn(one turning, from, to int64, without [2]int64) impl.Row {
	r := slices.Clone(one.r)
	for day := from; day <= to; day++ {
		for i, w := range one.list {
			if comesOn(w, day) && without != [2]int64{int64(i), day} {
				walkIn(r, w)
			}
		}
	}
	return r
}

// allDays are no walks to leave out.
var allDays = [2]int64{-1, -1}

// rowsIn returns the row behind each day from 0 to a day.
func rowsIn(one turning, to int64) []impl.Row {
	var rows []impl.Row
	r := one.r
	for day := range to + 1 {
		r = daysIn(turning{r, one.list}, day, day, allDays)
		rows = append(rows, r)
	}
	return rows
}
