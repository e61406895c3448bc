package tests

import (
	"slices"
	"testing"

	"loop.example/g01353/impl"
)

// P11: a day turns what its walkers turn.
func TestDayOf(t *testing.T) {
	for i, one := range sampleTurnings() {
		for _, day := range []int64{0, 1, int64(i), one.begun(), min(one.begun()+1, 10000), 10000} {
			is(t, "day", show(daysIn(one, day, day, allDays), 0), two(impl.DayOf(one.r, one.list, day)))
		}
	}
	day := func(r, text string, day int64) string {
		return rowText(impl.DayOf(row(t, r), walkers(t, text), day))
	}
	is(t, "nobody comes", "1234 0", day("1234", "1/2/0/1/4/1", 2))
	is(t, "ahead of the first day", "1234 0", day("1234", "3/1/0/1/4/1", 2))
	is(t, "by less than 0", "0123 0", day("1234", "2/1/0/1/4/-1", 2))
	is(t, "below 0", "7000 0", day("0111", "2/1/0/1/4/-1", 2))
	is(t, "above 7", "0017 0", day("6675", "0/2/0/1/4/2", 4))
	is(t, "several times", "5000 0", day("0000", "0/1/0/4/3/7", 4))
	is(t, "eight times", "3456 0", day("3456", "0/1/0/1/32/5", 4))
	is(t, "from the end on", "1001 0", day("0000", "0/1/3/1/2/1", 4))
	is(t, "without a turn", "3456 0", day("3456", "0/1/3/1/2/0", 4))
	is(t, "the same walker twice", "2000 0", rowText(impl.DayOf(row(t, "0000"), walkers(t, "0/1/0/1/1/1", "0/1/0/1/1/1"), 0)))
	is(t, "one back, one forth", "0010 0", rowText(impl.DayOf(row(t, "0000"), walkers(t, "0/1/0/1/2/-5", "0/1/0/1/2/5", "0/1/2/1/1/1"), 0)))
	is(t, "no walkers", "3456 0", rowText(impl.DayOf(row(t, "3456"), nil, 10000)))
}

// P11: days together are days one by one.
func TestDaysOf(t *testing.T) {
	for i, one := range sampleTurnings() {
		from := int64(i*7) % 90
		to := from + int64(i*11)%90
		want := show(daysIn(one, from, to, allDays), 0)
		is(t, "days", want, two(impl.DaysOf(one.r, one.list, from, to)))
		r := one.r
		for day := from; day <= to; day++ {
			r, _ = impl.DayOf(r, one.list, day)
		}
		is(t, "one by one", want, r, 0)
		middle := (from + to) / 2
		first, _ := impl.DaysOf(one.r, one.list, from, middle)
		if middle < to {
			first, _ = impl.DaysOf(first, one.list, middle+1, to)
		}
		is(t, "in two parts", want, first, 0)
		is(t, "one day", two(impl.DayOf(one.r, one.list, from)), two(impl.DaysOf(one.r, one.list, from, from)))
	}
}

func TestDaysOfEdges(t *testing.T) {
	list := walkers(t, "5/3/0/1/1/1", "10000/1/1/1/1/-1")
	days := func(from, to int64) string { return rowText(impl.DaysOf(row(t, "0000"), list, from, to)) }
	is(t, "ahead of all", "0000 0", days(0, 4))
	is(t, "until the first day", "1000 0", days(0, 5))
	is(t, "from the first day on", "1000 0", days(5, 5))
	is(t, "behind it", "0000 0", days(6, 7))
	is(t, "until the second one", "2000 0", days(5, 8))
	is(t, "a whole turn", "0000 0", days(5, 26))
	is(t, "more than that", "1000 0", days(5, 29))
	is(t, "the last day", "0700 0", days(10000, 10000))
	is(t, "the span is reached", "5000 0", days(9, 408))
	is(t, "the last span", "5700 0", days(9601, 10000))
	is(t, "a day more", "[] 3", two(impl.DaysOf(row(t, "0000"), list, 9, 409)))
	is(t, "all days", "[] 3", two(impl.DaysOf(row(t, "0000"), list, 0, 10000)))
}

// P11: RowOn is all days from 0 on, for which there is no limit.
func TestRowOn(t *testing.T) {
	for i, one := range sampleTurnings() {
		last := []int64{0, 1, 30, 399, 400, 401, 650}[i%7]
		for day, r := range rowsIn(one, last) {
			if day%29 == 0 || int64(day) == last {
				is(t, "row", show(r, 0), two(impl.RowOn(one.r, one.list, int64(day))))
			}
		}
		if last <= 399 {
			is(t, "days", two(impl.DaysOf(one.r, one.list, 0, last)), two(impl.RowOn(one.r, one.list, last)))
		}
	}
}

// P11: parts of days follow each other up to MaxDay.
func TestRowOnMaxDay(t *testing.T) {
	for i, one := range sampleTurnings() {
		if i%3 != 0 && i >= len(limitTurnings()) {
			continue
		}
		r := one.r
		for from := int64(0); from <= impl.MaxDay; from += impl.MaxSpan {
			r, _ = impl.DaysOf(r, one.list, from, min(from+impl.MaxSpan-1, impl.MaxDay))
			if from%2000 == 0 {
				to := min(from+impl.MaxSpan-1, impl.MaxDay)
				is(t, "up to a day", show(r, 0), two(impl.RowOn(one.r, one.list, to)))
			}
		}
		is(t, "the last day", show(r, 0), two(impl.RowOn(one.r, one.list, impl.MaxDay)))
	}
	is(t, "10001 eighths", "1000 0", rowText(impl.RowOn(row(t, "0000"), walkers(t, "0/1/0/1/1/1"), 10000)))
	is(t, "back", "7000 0", rowText(impl.RowOn(row(t, "0000"), walkers(t, "0/1/0/1/1/-1"), 10000)))
	is(t, "on the last day only", "0003 0", rowText(impl.RowOn(row(t, "0000"), walkers(t, "10000/1/3/1/1/3"), 10000)))
}

func TestUprightDays(t *testing.T) {
	found := 0
	for i, one := range sampleTurnings() {
		from := int64(i*13) % 200
		to := from + int64(i*17)%200
		var upright []int64
		for day, r := range rowsIn(one, to) {
			if int64(day) >= from && string(r) == string(make(impl.Row, len(r))) {
				upright = append(upright, int64(day))
			}
		}
		found += len(upright)
		is(t, "upright", show(upright, 0), two(impl.UprightDays(one.r, one.list, from, to)))
	}
	if found < 1000 {
		t.Errorf("the samples have only %d upright days", found)
	}
}

// The row that is given is the one ahead of the day 0, whatever from is.
func TestUprightDaysEdges(t *testing.T) {
	upright := func(r string, from, to int64, texts ...string) string {
		return two(impl.UprightDays(row(t, r), walkers(t, texts...), from, to))
	}
	is(t, "days ahead of from", "[20 21] 0", upright("0000", 10, 30, "6/2/0/1/4/1"))
	is(t, "several walkers", "[0 1 2 10 11 12 13] 0", upright("0000", 0, 20, "3/1/0/1/4/1", "11/1/0/1/4/-1", "14/4/0/1/4/1"))
	is(t, "from itself", "[7 15] 0", upright("0000", 7, 15, "0/1/0/1/4/1"))
	is(t, "to itself", "[7] 0", upright("0000", 1, 7, "0/1/0/1/4/1"))
	is(t, "one day", "[7] 0", upright("0000", 7, 7, "0/1/0/1/4/1"))
	is(t, "none", "[] 0", upright("0000", 0, 6, "0/1/0/1/4/1"))
	is(t, "always", "[3 4 5] 0", upright("0000", 3, 5))
	is(t, "never", "[] 0", upright("0001", 0, 399))
	is(t, "turned before", "[0 8] 0", upright("7777", 0, 9, "0/1/0/1/4/1"))
	is(t, "many days ahead of from", "[10000] 0", upright("7777", 9993, 10000, "0/1/0/1/4/1"))
	var span []int64
	for day := int64(9601); day <= 10000; day++ {
		span = append(span, day)
	}
	is(t, "the span is reached", show(span, 0), upright("0", 9601, 10000))
	is(t, "a day more", "[] 3", upright("0", 9600, 10000))
}

// errorsOfDays calls all functions that have days from from to to.
func errorsOfDays(r impl.Row, list []impl.Walker, from, to int64) []string {
	return []string{
		two(impl.DaysOf(r, list, from, to)), two(impl.UprightDays(r, list, from, to)),
		three(impl.BusiestDay(int64(len(r)), list, from, to)),
	}
}

// P1: ErrInvalid is first, then ErrRange, then ErrLimit.
func TestErrorsOfDays(t *testing.T) {
	r, list := row(t, "0123"), walkers(t, "0/1/0/1/1/1")
	wrong := walkers(t, "0/1/4/1/1/1")
	for _, day := range noDays() {
		for _, other := range append(noDays(), 0, 5, 10000) {
			is(t, "no day", "[[] 2 [] 2 0 0 2]", errorsOfDays(r, list, day, other))
			is(t, "no other day", "[[] 2 [] 2 0 0 2]", errorsOfDays(r, list, other, day))
			is(t, "invalid", "[[] 1 [] 1 0 0 1]", errorsOfDays(r, wrong, other, day))
		}
		is(t, "DayOf", "[] 2", two(impl.DayOf(r, list, day)))
		is(t, "RowOn", "[] 2", two(impl.RowOn(r, list, day)))
		is(t, "DayOf invalid", "[] 1", two(impl.DayOf(r, wrong, day)))
		is(t, "RowOn invalid", "[] 1", two(impl.RowOn(nil, list, day)))
	}
	is(t, "from greater than to", "[[] 2 [] 2 0 0 2]", errorsOfDays(r, list, 6, 5))
	is(t, "from far greater than to", "[[] 2 [] 2 0 0 2]", errorsOfDays(r, list, 10000, 0))
	is(t, "too many days", "[[] 3 [] 3 0 0 3]", errorsOfDays(r, list, 1, 401))
	is(t, "all days", "[[] 3 [] 3 0 0 3]", errorsOfDays(r, list, 0, 10000))
	is(t, "too many, and no day", "[[] 2 [] 2 0 0 2]", errorsOfDays(r, list, 0, 10001))
	is(t, "too many, and invalid", "[[] 1 [] 1 0 0 1]", errorsOfDays(r, wrong, 0, 401))
	is(t, "greater, and invalid", "[[] 1 [] 1 0 0 1]", errorsOfDays(r, slices.Repeat(list, 9), 5, 4))
	is(t, "400 days", "[[0 1 2 3] 0 [] 0 1 1 0]", errorsOfDays(r, walkers(t, "0/1/0/1/1/0"), 1, 400))
}
