package tests

import (
	"math"
	"slices"
	"testing"

	"loop.example/g01353/impl"
)

func TestNetsOf(t *testing.T) {
	for _, b := range sampleBooks() {
		var nets []int64
		for _, h := range b.list {
			nets = append(nets, h.Money)
		}
		is(t, "nets", show(nets, 0), two(impl.NetsOf(b.list)))
	}
	is(t, "bounds", "[1000000000 -1000000000] 0", two(impl.NetsOf([]impl.Holding{{Money: 1000000000}, {Money: -1000000000}})))
	is(t, "no holdings", "[] 1", two(impl.NetsOf(nil)))
	is(t, "7 holdings", "[] 1", two(impl.NetsOf(make([]impl.Holding, 7))))
	for _, h := range heldOutside() {
		is(t, "outside", "[] 2 [] 2", two(impl.NetsOf([]impl.Holding{h})), two(impl.NetsOf([]impl.Holding{{}, {}, h})))
		is(t, "7 with one outside", "[] 1", two(impl.NetsOf(slices.Repeat([]impl.Holding{h}, 7))))
	}
}

// sampleNets returns nets of 1 to MaxParties parties: all with small numbers of
// up to four parties, and some of more.
func sampleNets() [][]int64 {
	var samples [][]int64
	add := func(nets []int64) {
		last := int64(0)
		for _, net := range nets {
			last -= net
		}
		samples = append(samples, append(slices.Clone(nets), last))
	}
	for number := range 343 {
		nets := []int64{int64(number%7) - 3, int64(number/7%7) - 3, int64(number/49) - 3}
		add(nets)
		if number < 49 {
			add(nets[:2])
		}
		if number < 7 {
			add(nets[:1])
		}
	}
	add(nil)
	next := numberMaker(5)
	for round := range 250 {
		var nets []int64
		for range 4 + round%2 {
			nets = append(nets, int64(next(7)-3))
		}
		if round%3 == 0 { // so that two of them make up for each other
			nets[1] = -nets[3]
		}
		add(nets)
	}
	return samples
}

// groupsIn tries all lists of groups, and returns the one with the most groups
// that comes first.
func groupsIn(nets []int64) []int {
	var open []int64
	for _, net := range nets {
		if net != 0 {
			open = append(open, net)
		}
	}
	all, most := 1, 0
	for range open {
		all *= len(open)
	}
	var best []int
	for number := range all {
		groups, sums, used := make([]int, len(open)), make([]int64, len(open)+1), 0
		rest := number
		for i := range groups {
			groups[i] = rest % len(open)
			rest /= len(open)
			sums[groups[i]] += open[i]
		}
		fine := true
		for _, group := range groups {
			fine = fine && group <= used
			used = max(used, group+1)
		}
		fine = fine && !slices.ContainsFunc(sums, func(sum int64) bool { return sum != 0 })
		if fine && (used > most || used == most && slices.Compare(groups, best) < 0) {
			best, most = groups, used
		}
	}
	return best
}

// paymentsIn pays one by one, group by group.
func paymentsIn(nets []int64) []impl.Payment {
	groups := groupsIn(nets)
	own, member := slices.Clone(nets), make([]int, len(nets))
	for party, i := 0, 0; party < len(nets); party++ {
		member[party] = -1
		if nets[party] != 0 {
			member[party] = groups[i]
			i++
		}
	}
	var list []impl.Payment
	for group := range len(groups) {
		first := func(sign int64) int {
			return slices.IndexFunc(allOfNets(own), func(party int64) bool { return member[party] == group && own[party]*sign > 0 })
		}
		for from, to := first(-1), first(1); from >= 0; from, to = first(-1), first(1) {
			own[from]++
			own[to]--
			last := len(list) - 1
			if last >= 0 && int(list[last].From) == from && int(list[last].To) == to {
				list[last].Amount++
				continue
			}
			list = append(list, impl.Payment{From: int8(from), To: int8(to), Amount: 1})
		}
	}
	return list
}

// allOfNets returns the parties of nets.
func allOfNets(nets []int64) []int64 {
	var parties []int64
	for party := range nets {
		parties = append(parties, int64(party))
	}
	return parties
}

// canSettle tries all payments, at most as many as told, each one of at most 12.
func canSettle(nets []int64, payments int) bool {
	open := 0
	for _, net := range nets {
		if net != 0 {
			open++
		}
	}
	if open == 0 || open > 2*payments {
		return open == 0
	}
	for from := range nets {
		for to := range nets {
			for amount := int64(1); from != to && amount <= 12; amount++ {
				own := slices.Clone(nets)
				own[from] += amount
				own[to] -= amount
				if canSettle(own, payments-1) {
					return true
				}
			}
		}
	}
	return false
}

// P16: no fewer payments make all nets 0.
func TestFewestPayments(t *testing.T) {
	numbers := map[int]int{}
	for i, nets := range sampleNets() {
		list, code := impl.FewestPayments(nets)
		want := paymentsIn(nets)
		is(t, show(nets), show(want, 0), list, code)
		is(t, "they do", "true 0", two(impl.CheckPayments(nets, list)))
		numbers[len(list)]++
		if len(list) > 0 && (len(list) < 4 || i%10 == 0) && canSettle(nets, len(list)-1) {
			t.Errorf("%v: fewer payments than %v make all 0", nets, list)
		}
		many := slices.Clone(nets)
		for j := range many {
			many[j] *= 50000000
		}
		for j := range want {
			want[j].Amount *= 50000000
		}
		is(t, show(many), show(want, 0), two(impl.FewestPayments(many)))
	}
	for n := range impl.MaxParties {
		if numbers[n] < 1 {
			t.Errorf("the samples have %v payments", numbers)
		}
	}
}

func TestFewestPaymentsEdges(t *testing.T) {
	fewest := func(nets ...int64) string { return two(impl.FewestPayments(nets)) }
	is(t, "all 0", "[] 0 [] 0 [] 0", fewest(0), fewest(0, 0), fewest(0, 0, 0, 0, 0, 0))
	is(t, "two", "[{0 1 7}] 0 [{1 0 7}] 0", fewest(-7, 7), fewest(7, -7))
	is(t, "others have 0", "[{4 1 7}] 0", fewest(0, 7, 0, 0, -7, 0))
	is(t, "one pays all", "[{2 0 1} {2 1 2} {2 3 3}] 0", fewest(1, 2, -6, 3))
	is(t, "all pay one", "[{0 2 1} {1 2 2} {3 2 3}] 0", fewest(-1, -2, 6, -3))
	is(t, "the lesser one of both", "[{0 2 3} {0 3 2} {1 3 2}] 0", fewest(-5, -2, 3, 4))
	is(t, "two groups", "[{0 3 5} {1 2 2}] 0", fewest(-5, -2, 2, 5))
	is(t, "group by group", "[{0 3 5} {2 1 2}] 0", fewest(-5, 2, -2, 5))
	is(t, "three groups", "[{0 5 1} {1 3 2} {4 2 3}] 0", fewest(-1, -2, 3, 2, -3, 1))
	is(t, "the first of several lists", "[{0 1 1} {3 2 1}] 0", fewest(-1, 1, 1, -1))
	is(t, "the first of several lists, all the same", "[{0 1 1} {2 3 1} {4 5 1}] 0", fewest(-1, 1, -1, 1, -1, 1))
	is(t, "first the ones that pay", "[{0 3 1} {1 4 1} {2 5 1}] 0", fewest(-1, -1, -1, 1, 1, 1))
	is(t, "the first group as long as can be", "[{0 1 1} {0 2 1} {3 4 2}] 0", fewest(-2, 1, 1, -2, 2))
	is(t, "several ways with as many groups", "[{0 1 3} {2 3 3} {2 4 1}] 0", fewest(-3, 3, -4, 3, 1))
	is(t, "two groups of three", "[{0 1 2} {0 2 3} {3 4 3} {3 5 4}] 0", fewest(-5, 2, 3, -7, 3, 4))
	is(t, "no groups by themselves", "[{0 4 6} {0 5 4} {1 5 3} {2 5 1} {3 5 1}] 0", fewest(-10, -3, -1, -1, 6, 9))
	is(t, "bounds", "[{0 1 1000000000}] 0", fewest(-1000000000, 1000000000))
	is(t, "bounds of six", "[{1 0 1000000000} {2 3 1000000000} {4 5 1000000000}] 0", fewest(1000000000, -1000000000, -1000000000, 1000000000, -1000000000, 1000000000))
	is(t, "of the example's holdings", "[{1 0 166}] 0", fewest(166, -166))
}

func TestCheckPayments(t *testing.T) {
	next := numberMaker(77)
	settled := 0
	for _, nets := range sampleNets() {
		var list []impl.Payment
		own := slices.Clone(nets)
		pay := func(from, to int, amount int64) {
			if from != to && amount > 0 {
				list = append(list, impl.Payment{From: int8(from), To: int8(to), Amount: amount})
				own[from] += amount
				own[to] -= amount
			}
		}
		for range next(6) {
			pay(next(len(nets)), next(len(nets)), int64(next(9)))
		}
		// The last party settles with all others, but for some now and then.
		for party := range len(nets) - 1 {
			if next(5) > 0 {
				pay(len(nets)-1, party, own[party])
				pay(party, len(nets)-1, -own[party])
			}
		}
		zero := !slices.ContainsFunc(own, func(net int64) bool { return net != 0 })
		if zero {
			settled++
		}
		is(t, show(nets, list), show(zero, 0), two(impl.CheckPayments(nets, list)))
		slices.Reverse(list)
		is(t, "in another order", show(zero, 0), two(impl.CheckPayments(nets, list)))
	}
	if n := len(sampleNets()); settled < n/4 || settled > n*3/4 {
		t.Errorf("%d samples of %d are settled", settled, n)
	}
}

func TestCheckPaymentsEdges(t *testing.T) {
	check := func(nets []int64, list ...impl.Payment) string { return two(impl.CheckPayments(nets, list)) }
	pay := func(from, to int8, amount int64) impl.Payment {
		return impl.Payment{From: from, To: to, Amount: amount}
	}
	none, owe := []int64{0, 0}, []int64{-5, 5}
	is(t, "no payments", "true 0 false 0", check(none), check(owe))
	is(t, "one", "true 0 false 0", check(owe, pay(0, 1, 5)), check(owe, pay(1, 0, 5)))
	is(t, "too little, too much", "false 0 false 0", check(owe, pay(0, 1, 4)), check(owe, pay(0, 1, 6)))
	is(t, "more payments than needed", "true 0 true 0", check(owe, pay(0, 1, 8), pay(1, 0, 3)), check(none, pay(0, 1, 8), pay(1, 0, 8)))
	is(t, "the same party", "false 0 false 0 false 0", check(none, pay(0, 0, 1)), check(owe, pay(0, 1, 5), pay(1, 1, 3)), check([]int64{0}, pay(0, 0, 1)))
	for _, wrong := range []int64{0, -1, -5, 1000000001, math.MinInt64, math.MaxInt64} {
		is(t, "amounts", "false 0 false 0", check(owe, pay(0, 1, wrong)), check(owe, pay(0, 1, 5), pay(1, 0, wrong), pay(0, 1, wrong)))
	}
	is(t, "an amount of 0 more", "false 0", check(owe, pay(0, 1, 5), pay(0, 1, 0)))
	is(t, "an amount less than 0 the other way", "false 0", check(owe, pay(1, 0, -5)))
	for _, wrong := range []int8{-1, 2, 6, math.MinInt8, math.MaxInt8} {
		is(t, "no party", "false 0 false 0 false 0", check(none, pay(wrong, 0, 1)), check(none, pay(0, wrong, 1)), check(none, pay(wrong, wrong, 1)))
		is(t, "no party, forth and back", "false 0 false 0", check(none, pay(0, wrong, 1), pay(wrong, 0, 1)), check(owe, pay(0, 1, 5), pay(wrong, 1, 2), pay(1, wrong, 2)))
	}
	forth, back := pay(0, 1, 1000000000), pay(1, 0, 1000000000)
	is(t, "80", "true 0", check(none, slices.Concat(slices.Repeat([]impl.Payment{forth}, 40), slices.Repeat([]impl.Payment{back}, 40))...))
	is(t, "80 but one", "false 0", check(none, slices.Concat(slices.Repeat([]impl.Payment{forth}, 40), slices.Repeat([]impl.Payment{back}, 39))...))
	is(t, "81", "false 3", check(none, slices.Repeat([]impl.Payment{forth}, 81)...))
	is(t, "81 that are none", "false 3", check(none, make([]impl.Payment, 81)...))
	is(t, "many", "false 3", check(none, make([]impl.Payment, 300000)...))
}

func TestErrorsOfNets(t *testing.T) {
	both := func(nets []int64, payments int) string {
		return two(impl.FewestPayments(nets)) + " " + two(impl.CheckPayments(nets, make([]impl.Payment, payments)))
	}
	is(t, "no nets", "[] 1 false 1", both(nil, 0))
	is(t, "7 nets", "[] 1 false 1", both(make([]int64, 7), 81))
	is(t, "many nets", "[] 1 false 1", both(make([]int64, 900000), 0))
	for _, wrong := range []int64{-1000000001, 1000000001, math.MinInt64, math.MaxInt64} {
		is(t, "range", "[] 2 false 2", both([]int64{wrong}, 0))
		is(t, "range with the sum 0", "[] 2 false 2", both([]int64{wrong, -wrong}, 81))
		is(t, "range is ahead of state", "[] 2 false 2", both([]int64{3, 5, wrong}, 81))
		is(t, "invalid is ahead of range", "[] 1 false 1", both([]int64{wrong, 0, 0, 0, 0, 0, 0}, 81))
	}
	is(t, "sums that overflow", "[] 2 false 2", both([]int64{math.MinInt64, math.MinInt64}, 0))
	is(t, "state", "[] 4 false 4", both([]int64{1}, 0))
	is(t, "state is ahead of limit", "[] 4 false 4", both([]int64{-5, 3, 1}, 81))
	is(t, "state of six", "[] 4 false 4", both([]int64{1000000000, 1000000000, 1000000000, 1000000000, 1000000000, 1000000000}, 0))
	is(t, "limit is last", "[] 0 false 3", both([]int64{0}, 81))
}
