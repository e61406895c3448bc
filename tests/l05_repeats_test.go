package tests

import (
	"slices"
	"testing"

	"loop.example/g01353/impl"
)

func TestMeetingDay(t *testing.T) {
	codes := map[int64]int{}
	for i, one := range sampleTurnings() {
		for j, a := range one.list {
			b := one.list[(j+i)%len(one.list)]
			from := int64(i*37+j) % 300
			// Behind 100 * 100 days once both have begun they come as before.
			day := max(from, one.begun())
			last, code := day+10000, int64(impl.ErrNotFound)
			for day = from; day <= last && code != impl.OK; day++ {
				if day >= int64(a.First) && day >= int64(b.First) && (day-int64(a.First))%int64(a.Every) == 0 && (day-int64(b.First))%int64(b.Every) == 0 {
					code = impl.OK
					break
				}
			}
			if code != impl.OK {
				day = 0
			}
			codes[code]++
			is(t, "meeting", show(day, code), two(impl.MeetingDay(one.bottles(), a, b, from)))
			is(t, "the other way", show(day, code), two(impl.MeetingDay(one.bottles(), b, a, from)))
		}
	}
	if codes[impl.OK] < 200 || codes[impl.ErrNotFound] < 100 {
		t.Errorf("the samples meet with %v", codes)
	}
}

func TestMeetingDayEdges(t *testing.T) {
	meet := func(a, b string, from int64) string {
		return two(impl.MeetingDay(5, walker(t, a), walker(t, b), from))
	}
	is(t, "from itself", "4 0", meet("0/2/0/1/1/1", "1/3/0/1/1/1", 4))
	is(t, "later", "10 0", meet("0/2/0/1/1/1", "1/3/0/1/1/1", 5))
	is(t, "the same one", "7 0", meet("7/9/0/1/1/1", "7/9/0/1/1/1", 0))
	is(t, "the same one later", "16 0", meet("7/9/0/1/1/1", "7/9/0/1/1/1", 8))
	is(t, "one who begins late", "9000 0", meet("0/1/0/1/1/1", "9000/100/0/1/1/1", 3))
	is(t, "the other one does", "9000 0", meet("9000/100/0/1/1/1", "0/1/0/1/1/1", 3))
	is(t, "not ahead of the first day", "11 0", meet("5/3/0/1/1/1", "9/2/0/1/1/1", 0))
	is(t, "never", "0 6", meet("0/2/0/1/1/1", "1/2/0/1/1/1", 0))
	is(t, "never with a common divisor", "0 6", meet("0/6/0/1/1/1", "1/9/0/1/1/1", 0))
	is(t, "on the last day", "10000 0", meet("0/100/0/1/1/1", "10000/1/0/1/1/1", 10000))
	is(t, "behind MaxDay", "10010 0", meet("10/100/0/1/1/1", "10000/1/0/1/1/1", 10000))
	is(t, "far behind MaxDay", "19801 0", meet("10000/99/0/1/1/1", "9901/100/0/1/1/1", 0))
	is(t, "as far as can be", "19899 0", meet("9999/99/0/1/1/1", "9999/100/0/1/1/1", 10000))
	for _, day := range noDays() {
		is(t, "no day", "0 2", meet("0/2/0/1/1/1", "1/3/0/1/1/1", day))
		is(t, "ErrRange is ahead of ErrNotFound", "0 2", meet("0/2/0/1/1/1", "1/2/0/1/1/1", day))
		is(t, "ErrInvalid is first", "0 1 0 1", meet("0/2/5/1/1/1", "1/3/0/1/1/1", day), meet("0/2/0/1/1/1", "1/3/5/1/1/1", day))
	}
}

func TestAllWalkEvery(t *testing.T) {
	codes := map[int64]int{}
	for _, one := range sampleTurnings() {
		every, code := int64(0), int64(impl.ErrLimit)
		for n := int64(1); n <= 1000000 && code != impl.OK; n++ {
			if !slices.ContainsFunc(one.list, func(w impl.Walker) bool { return n%int64(w.Every) != 0 }) {
				every, code = n, impl.OK
			}
		}
		codes[code]++
		is(t, "every", show(every, code), two(impl.AllWalkEvery(one.bottles(), one.list)))
	}
	if codes[impl.OK] < 200 || codes[impl.ErrLimit] < 10 {
		t.Errorf("the samples walk with %v", codes)
	}
}

// comers returns walkers who come every so many days, and turn one bottle.
func comers(turn int8, every ...int16) []impl.Walker {
	var list []impl.Walker
	for _, n := range every {
		list = append(list, impl.Walker{Every: n, Count: 1, Turn: turn})
	}
	return list
}

func TestAllWalkEveryEdges(t *testing.T) {
	every := func(numbers ...int16) string {
		return two(impl.AllWalkEvery(3, comers(1, numbers...))) + " " + two(impl.RepeatsBehind(3, comers(0, numbers...)))
	}
	is(t, "no walkers", "1 0 1 0", every())
	is(t, "one", "100 0 100 0", every(100))
	is(t, "the same", "7 0 7 0", every(7, 7, 7))
	is(t, "multiples", "36 0 36 0", every(12, 18, 4))
	is(t, "just within the limit", "999999 0 999999 0", every(27, 7, 11, 13, 37))
	is(t, "the same number several times", "999999 0 999999 0", every(27, 77, 13, 37, 99, 91, 1, 33))
	is(t, "just beyond the limit", "0 3 0 3", every(8, 9, 17, 19, 43))
	is(t, "beyond it by the last one", "0 3 0 3", every(100, 99, 97, 7))
	is(t, "far beyond it", "0 3 0 3", every(100, 99, 97, 91, 89, 83, 79, 73))
	wrong := append(comers(1, 100, 99, 97), impl.Walker{})
	is(t, "ErrInvalid is first", "0 1 0 1", two(impl.AllWalkEvery(3, wrong)), two(impl.RepeatsBehind(3, wrong)))
}

// P12: a row repeats behind as many days as told, and behind no fewer ones that
// are a multiple of AllWalkEvery.
func TestRepeatsBehind(t *testing.T) {
	times := map[int64]int{}
	for _, one := range sampleTurnings() {
		every, code := impl.AllWalkEvery(one.bottles(), one.list)
		if code != impl.OK || every > 150 || one.begun() > 700 {
			continue
		}
		begun := one.begun()
		rows := rowsIn(one, begun+9*every)
		// repeats looks at every row, once all have begun.
		repeats := func(behind int64) bool {
			for day := begun; day < begun+every; day++ {
				if string(rows[day]) != string(rows[day+behind]) {
					return false
				}
			}
			return true
		}
		behind := every
		for !repeats(behind) {
			behind += every
		}
		times[behind/every]++
		is(t, "repeats", show(behind, 0), two(impl.RepeatsBehind(one.bottles(), one.list)))
	}
	for _, n := range []int64{1, 2, 4, 8} {
		if times[n] < 3 {
			t.Errorf("the samples repeat behind %v times AllWalkEvery", times)
		}
	}
}

// P12: rows are as they were, up to MaxDay.
func TestRepeatsBehindOfRowOn(t *testing.T) {
	looked := 0
	for i, one := range sampleTurnings() {
		behind, code := impl.RepeatsBehind(one.bottles(), one.list)
		if code != impl.OK {
			continue
		}
		for day := one.begun() + int64(i%11); day+behind <= impl.MaxDay; day += 29 + behind*2/3 {
			before, _ := impl.RowOn(one.r, one.list, day)
			after, _ := impl.RowOn(one.r, one.list, day+behind)
			is(t, "as it was", show(before), after)
			looked++
		}
	}
	if looked < 1000 {
		t.Errorf("only %d rows were looked at", looked)
	}
}

func TestRepeatsBehindEdges(t *testing.T) {
	behind := func(bottles int64, texts ...string) string {
		return two(impl.RepeatsBehind(bottles, walkers(t, texts...)))
	}
	is(t, "no walkers", "1 0", behind(4))
	is(t, "by 1", "24 0", behind(4, "0/3/0/1/1/1"))
	is(t, "by 2", "12 0", behind(4, "0/3/0/1/1/2"))
	is(t, "by 3", "24 0", behind(4, "0/3/0/1/1/3"))
	is(t, "by 4", "6 0", behind(4, "0/3/0/1/1/4"))
	is(t, "by 6", "12 0", behind(4, "0/3/0/1/1/6"))
	is(t, "by less than 0", "24 0", behind(4, "0/3/0/1/1/-1"))
	is(t, "by -4", "6 0", behind(4, "0/3/0/1/1/-4"))
	is(t, "by 0", "3 0", behind(4, "0/3/0/1/1/0"))
	is(t, "several times by 1", "6 0", behind(4, "0/3/0/4/4/1"))
	is(t, "eight times by 1", "3 0", behind(4, "0/3/0/4/8/1"))
	is(t, "the worst bottle", "24 0", behind(4, "0/3/0/1/1/4", "0/3/1/1/1/2", "0/3/2/1/1/1"))
	is(t, "all together a whole turn", "3 0", behind(4, "0/3/0/1/2/4", "0/3/0/1/2/2", "1/3/0/1/2/2"))
	is(t, "one back, one forth", "3 0", behind(4, "0/3/0/1/4/5", "2/3/0/1/4/-5"))
	is(t, "a whole turn by several walks of two", "6 0", behind(4, "0/2/0/1/4/2", "9/3/0/1/4/1"))
	is(t, "more often within the multiple", "8 0", behind(4, "0/1/0/1/4/1", "0/8/0/1/1/0"))
	is(t, "half as often", "8 0", behind(4, "0/1/0/1/4/1", "0/4/0/1/1/0"))
	is(t, "one who begins late", "16 0", behind(4, "10000/2/0/1/1/1"))
	is(t, "a single bottle", "200 0", behind(1, "0/100/0/60/60/1"))
	is(t, "the limit is that of AllWalkEvery", "7999992 0", two(impl.RepeatsBehind(3, append(comers(0, 27, 77, 13), comers(1, 37)...))))
	is(t, "half as often at the limit", "3999996 0", two(impl.RepeatsBehind(3, comers(-7, 27, 77, 13, 37))))
}

func TestBusiestDay(t *testing.T) {
	for i, one := range sampleTurnings() {
		from := int64(i*7) % 300
		to := from + int64(i*11)%100
		busiest, most := from, int64(-1)
		for day := from; day <= to; day++ {
			var visits int64
			for _, w := range one.list {
				if comesOn(w, day) {
					each, _ := impl.VisitsOf(one.bottles(), w)
					for _, n := range each {
						visits += n
					}
				}
			}
			if visits > most {
				busiest, most = day, visits
			}
		}
		is(t, "busiest", show(busiest, most, 0), three(impl.BusiestDay(one.bottles(), one.list, from, to)))
	}
}

func TestBusiestDayEdges(t *testing.T) {
	busiest := func(from, to int64, texts ...string) string {
		return three(impl.BusiestDay(4, walkers(t, texts...), from, to))
	}
	is(t, "no walkers", "3 0 0", busiest(3, 9))
	is(t, "nobody comes", "3 0 0", busiest(3, 9, "10/1/0/1/1/1"))
	is(t, "the first one of several", "4 5 0", busiest(3, 9, "0/2/0/1/5/1"))
	is(t, "several times the same bottle", "5 60 0", busiest(3, 9, "3/2/0/1/3/1", "5/7/0/0/57/1"))
	is(t, "on the last day", "9 2 0", busiest(3, 9, "3/1/0/1/1/1", "9/1/0/1/1/1"))
	is(t, "not behind it", "3 1 0", busiest(3, 8, "3/1/0/1/1/1", "9/1/0/1/1/1"))
	is(t, "not ahead of from", "3 1 0", busiest(3, 8, "0/1/0/1/1/1", "2/100/0/1/9/1"))
	is(t, "without a turn", "6 9 0", busiest(3, 8, "0/1/0/1/1/1", "6/100/0/1/8/0"))
	is(t, "all on the last of all days", "10000 480 0", busiest(9601, 10000, slices.Repeat([]string{"10000/1/0/0/60/1"}, 8)...))
	is(t, "one day", "7 3 0", busiest(7, 7, "0/7/0/1/3/1"))
}
