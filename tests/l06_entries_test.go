package tests

import (
	"math"
	"slices"
	"testing"

	"loop.example/g01353/impl"
)

func TestDepositsExample(t *testing.T) {
	b := bookExample(t)
	is(t, "holdings", "[{8 10 1 0 166} {1 0 1 1 -166}] 0", two(impl.ReplayLedger(b.p, b.list, b.entries)))
	is(t, "breakage", "90 0", two(impl.BreakageOf(b.entries)))
	is(t, "payments", "[{0 1 3} {0 2 2}] 0", two(impl.FewestPayments([]int64{-5, 3, 2})))
	is(t, "they do", "true 0", two(impl.CheckPayments([]int64{-5, 3, 2}, []impl.Payment{{From: 0, To: 1, Amount: 3}, {From: 0, To: 2, Amount: 2}})))
}

func TestValidPrices(t *testing.T) {
	for _, p := range []impl.Prices{{}, {Bottle: 1000}, {Crate: 1000}, {Bottle: 1000, Crate: 1000}, {Bottle: 8, Crate: 150}} {
		is(t, show(p), "true", impl.ValidPrices(p))
	}
	for _, p := range invalidPrices() {
		is(t, show(p), "false", impl.ValidPrices(p))
	}
}

func TestValidEntry(t *testing.T) {
	for parties := int64(-1); parties <= 8; parties++ {
		for from := int8(-2); from <= 8; from++ {
			for to := int8(-2); to <= 8; to++ {
				for what := range uint8(8) {
					there := min(from, to) >= 0 && int64(max(from, to)) < parties && parties <= 6
					goes, stays := what <= impl.WhCrate && from != to, (what == impl.WhDrink || what == impl.WhBreak) && from == to
					e := impl.Entry{Day: 7, From: from, To: to, What: what, Number: 9}
					is(t, show(parties, e), show(there && (goes || stays)), impl.ValidEntry(parties, e))
				}
			}
		}
	}
	for _, e := range []impl.Entry{{Day: 0, To: 1, Number: 1}, {Day: 10000, To: 1, Number: 1000}, {Day: 10000, From: 1, To: 1, What: impl.WhDrink, Number: 1000}} {
		is(t, show(e), "true", impl.ValidEntry(2, e))
		for _, parties := range noParties() {
			is(t, show(parties, e), "false", impl.ValidEntry(parties, e))
		}
	}
	for _, e := range invalidEntries() {
		for parties := range int64(7) {
			is(t, show(parties, e), "false", impl.ValidEntry(parties, e))
		}
	}
}

func TestValidLedger(t *testing.T) {
	valid := func(parties int64, text string) bool { return impl.ValidLedger(parties, ledger(t, text)) }
	is(t, "no entries", "true true", impl.ValidLedger(1, nil), impl.ValidLedger(6, []impl.Entry{}))
	is(t, "the example", "true true false", valid(2, exampleLedger), valid(6, exampleLedger), valid(1, exampleLedger))
	is(t, "one party", "true false", valid(1, "3 0>0 drink 2\n3 0>0 break 2\n"), valid(1, "3 1>1 drink 2\n"))
	is(t, "the same entry twice", "true", valid(2, "3 0>1 full 1\n3 0>1 full 1\n"))
	is(t, "a day in any order", "true", valid(2, "3 1>0 crate 9\n3 0>1 full 1\n3 0>1 full 2\n3 0>0 break 1\n"))
	is(t, "80", "true", impl.ValidLedger(2, manyEntries(80)))
	is(t, "81", "false", impl.ValidLedger(2, manyEntries(81)))
	is(t, "81 on one day", "false", impl.ValidLedger(2, slices.Repeat(ledger(t, "3 0>1 full 1\n"), 81)))
	is(t, "many", "false", impl.ValidLedger(2, make([]impl.Entry, 200000)))
	for i := range 79 {
		wrong := manyEntries(80)
		wrong[i], wrong[i+1] = wrong[i+1], wrong[i]
		is(t, "a day too early", "false", impl.ValidLedger(2, wrong))
		wrong = manyEntries(80)
		wrong[i].To = 0
		is(t, "an entry not valid", "false", impl.ValidLedger(2, wrong))
	}
	for _, parties := range noParties() {
		is(t, "no parties", "false false", impl.ValidLedger(parties, nil), valid(parties, exampleLedger))
	}
}

func TestSameLedger(t *testing.T) {
	for _, b := range sampleBooks() {
		is(t, "same", "true", impl.SameLedger(b.entries, slices.Clone(b.entries)))
		for i := range b.entries {
			other := slices.Clone(b.entries)
			switch i % 5 {
			case 0:
				other[i].Day++
			case 1:
				other[i].From++
			case 2:
				other[i].To--
			case 3:
				other[i].What ^= 1
			case 4:
				other[i].Number++
			}
			is(t, "another entry", "false false", impl.SameLedger(b.entries, other), impl.SameLedger(other, b.entries))
			is(t, "a beginning", "false false", impl.SameLedger(b.entries, b.entries[:i]), impl.SameLedger(b.entries[:i], b.entries))
		}
	}
	is(t, "none", "true true", impl.SameLedger(nil, nil), impl.SameLedger(nil, []impl.Entry{}))
	is(t, "one of zeros and none", "false false", impl.SameLedger(make([]impl.Entry, 1), nil), impl.SameLedger(nil, make([]impl.Entry, 1)))
	for _, e := range invalidEntries() {
		one := []impl.Entry{e, e}
		is(t, "not valid", "true false", impl.SameLedger(one, slices.Clone(one)), impl.SameLedger(one, []impl.Entry{e, {Day: 77}}))
	}
	many := make([]impl.Entry, 90000)
	other := slices.Clone(many)
	is(t, "many", "true", impl.SameLedger(many, other))
	other[89999].Number = 1
	is(t, "many but the last one", "false false", impl.SameLedger(many, other), impl.SameLedger(many, many[1:]))
	is(t, "many and none", "false false", impl.SameLedger(many, nil), impl.SameLedger(nil, many))
	other[89999].Number, other[0].Number = 0, 1
	is(t, "many but the first one", "false", impl.SameLedger(many, other))
}

func TestSumOf(t *testing.T) {
	for _, b := range sampleBooks() {
		var sum impl.Holding
		for _, h := range b.list {
			sum.Full += h.Full
			sum.Empty += h.Empty
			sum.Crates += h.Crates
			sum.Broken += h.Broken
			sum.Money += h.Money
		}
		is(t, "sum", show(sum, 0), two(impl.SumOf(b.list)))
	}
	most := impl.Holding{Full: 1000000, Empty: 1000000, Crates: 1000000, Broken: 1000000, Money: 1000000000}
	is(t, "beyond the bounds", "{6000000 6000000 6000000 6000000 6000000000} 0", two(impl.SumOf(slices.Repeat([]impl.Holding{most}, 6))))
	is(t, "debts", "{0 0 0 0 -6000000000} 0", two(impl.SumOf(slices.Repeat([]impl.Holding{{Money: -1000000000}}, 6))))
	is(t, "no holdings", "{0 0 0 0 0} 1", two(impl.SumOf(nil)))
	is(t, "7 holdings", "{0 0 0 0 0} 1", two(impl.SumOf(make([]impl.Holding, 7))))
	for _, h := range heldOutside() {
		is(t, "outside", "{0 0 0 0 0} 2", two(impl.SumOf([]impl.Holding{most, h})))
		is(t, "7 with one outside", "{0 0 0 0 0} 1", two(impl.SumOf(slices.Repeat([]impl.Holding{h}, 7))))
	}
}

// P14: bottles, crates and money are what there was, and deposits leave each one
// with what it had, but for what is broken.
func TestEntriesKeepSums(t *testing.T) {
	kept := map[uint8]int{}
	for _, b := range sampleBooks() {
		state := b.list
		for _, e := range b.entries {
			behind, code := impl.ApplyEntry(b.p, state, e)
			if code != impl.OK {
				continue
			}
			kept[e.What]++
			before, _ := impl.SumOf(state)
			after, _ := impl.SumOf(behind)
			is(t, "bottles", show(before.Full+before.Empty+before.Broken), after.Full+after.Empty+after.Broken)
			is(t, "crates and money", show(before.Crates, before.Money), after.Crates, after.Money)
			for party := range state {
				was, _ := impl.OutAt(b.p, state[party])
				worth, _ := impl.OutAt(b.p, behind[party])
				if e.What == impl.WhBreak && int(e.From) == party {
					was -= int64(e.Number) * int64(b.p.Bottle)
				}
				is(t, "worth", show(was), worth)
			}
			state = behind
		}
	}
	for what := range uint8(5) {
		if kept[what] < 500 {
			t.Errorf("the samples apply %v", kept)
		}
	}
}

func TestApplyEntry(t *testing.T) {
	codes := map[int64]int{}
	for _, b := range sampleBooks() {
		state := b.list
		for _, e := range b.entries {
			want, code := applyIn(b.p, state, e)
			codes[code]++
			is(t, show(e), show(want, code), two(impl.ApplyEntry(b.p, state, e)))
			if code == impl.OK {
				state = want
			}
		}
	}
	if codes[impl.OK] < 5000 || codes[impl.ErrState] < 500 || codes[impl.ErrLimit] < 500 {
		t.Errorf("the samples are applied with %v", codes)
	}
}

func TestApplyEntryKinds(t *testing.T) {
	p := impl.Prices{Bottle: 3, Crate: 100}
	list := []impl.Holding{holding(10, 20, 30, 40, 50), holding(60, 70, 80, 90, -50), holding(1, 2, 3, 4, 5)}
	apply := func(text string) string { return two(impl.ApplyEntry(p, list, entry(t, text))) }
	is(t, "full", "[{8 20 30 40 56} {62 70 80 90 -56} {1 2 3 4 5}] 0", apply("4 0>1 full 2"))
	is(t, "empty", "[{10 22 30 40 44} {60 68 80 90 -44} {1 2 3 4 5}] 0", apply("4 1>0 empty 2"))
	is(t, "crates", "[{10 20 33 40 -250} {60 70 80 90 -50} {1 2 0 4 305}] 0", apply("4 2>0 crate 3"))
	is(t, "drunk", "[{10 20 30 40 50} {59 71 80 90 -50} {1 2 3 4 5}] 0", apply("4 1>1 drink 1"))
	is(t, "broken", "[{10 20 30 40 50} {60 70 80 90 -50} {0 2 3 5 5}] 0", apply("4 2>2 break 1"))
	is(t, "all of them", "[{0 20 30 40 80} {60 70 80 90 -50} {11 2 3 4 -25}] 0", apply("4 0>2 full 10"))
	for _, text := range []string{"4 0>2 full 11", "4 0>2 empty 21", "4 0>2 crate 31", "4 0>0 drink 11", "4 0>0 break 11", "4 2>1 full 2", "4 0>0 drink 1000"} {
		is(t, text, "[] 4", apply(text))
	}
}

func TestApplyEntryBounds(t *testing.T) {
	apply := func(p impl.Prices, text string, list ...impl.Holding) string {
		return two(impl.ApplyEntry(p, list, entry(t, text)))
	}
	free, one := impl.Prices{}, impl.Prices{Bottle: 1, Crate: 1}
	is(t, "full reached", "[{0 0 0 0 0} {1000000 0 0 0 0}] 0", apply(free, "0 0>1 full 9", impl.Holding{Full: 9}, impl.Holding{Full: 999991}))
	is(t, "full beyond", "[] 3", apply(free, "0 0>1 full 9", impl.Holding{Full: 9}, impl.Holding{Full: 999992}))
	is(t, "empty reached", "[{0 0 0 0 0} {0 1000000 0 0 0}] 0", apply(free, "0 0>1 empty 9", impl.Holding{Empty: 9}, impl.Holding{Empty: 999991}))
	is(t, "empty beyond", "[] 3", apply(free, "0 0>1 empty 9", impl.Holding{Empty: 9}, impl.Holding{Empty: 999992}))
	is(t, "crates reached", "[{0 0 1000000 0 0} {0 0 0 0 0}] 0", apply(free, "0 1>0 crate 9", impl.Holding{Crates: 999991}, impl.Holding{Crates: 9}))
	is(t, "crates beyond", "[] 3", apply(free, "0 1>0 crate 9", impl.Holding{Crates: 999992}, impl.Holding{Crates: 9}))
	is(t, "drunk reached", "[{1 1000000 0 0 0}] 0", apply(one, "0 0>0 drink 9", impl.Holding{Full: 10, Empty: 999991}))
	is(t, "drunk beyond", "[] 3", apply(one, "0 0>0 drink 9", impl.Holding{Full: 10, Empty: 999992}))
	is(t, "broken reached", "[{1 0 0 1000000 0}] 0", apply(one, "0 0>0 break 9", impl.Holding{Full: 10, Broken: 999991}))
	is(t, "broken beyond", "[] 3", apply(one, "0 0>0 break 9", impl.Holding{Full: 10, Broken: 999992}))
	is(t, "money reached", "[{0 0 0 0 1000000000} {9 0 0 0 0}] 0", apply(one, "0 0>1 full 9", impl.Holding{Full: 9, Money: 999999991}, impl.Holding{Money: 9}))
	is(t, "money beyond", "[] 3", apply(one, "0 0>1 full 9", impl.Holding{Full: 9, Money: 999999992}, impl.Holding{Money: 9}))
	is(t, "debts reached", "[{0 0 0 0 9} {0 0 9 0 -1000000000}] 0", apply(one, "0 0>1 crate 9", impl.Holding{Crates: 9}, impl.Holding{Money: -999999991}))
	is(t, "debts beyond", "[] 3", apply(one, "0 0>1 crate 9", impl.Holding{Crates: 9}, impl.Holding{Money: -999999992}))
	most := impl.Holding{Full: 1000000, Empty: 1000000, Crates: 1000000, Broken: 1000000, Money: 1000000000}
	is(t, "what is at a bound may stay", "[{999000 1000000 1000000 1000000 1000000000} {1000 0 0 0 -1000000000} {1000000 1000000 1000000 1000000 1000000000}] 0",
		apply(free, "0 0>1 full 1000", most, impl.Holding{Money: -1000000000}, most))
	is(t, "ErrState is ahead of ErrLimit", "[] 4 [] 4", apply(one, "0 0>1 full 9", impl.Holding{Full: 8}, most), apply(one, "0 0>0 drink 9", impl.Holding{Full: 8, Empty: 1000000}))
}

// errorsOfReplay are the codes of all functions that replay some entries.
func errorsOfReplay(b book) []int64 {
	_, one := impl.ReplayLedger(b.p, b.list, b.entries)
	_, _, two := impl.FirstWrong(b.p, b.list, b.entries)
	_, three := impl.ExplainedBy(b.p, b.list, b.entries, b.list)
	codes := []int64{one, two, three}
	if len(b.entries) == 1 {
		_, four := impl.ApplyEntry(b.p, b.list, b.entries[0])
		codes = append(codes, four)
	}
	return codes
}

func TestOrderOfErrorsOfEntries(t *testing.T) {
	fine, p := impl.Holding{Full: 5}, impl.Prices{Bottle: 8, Crate: 150}
	one := []impl.Entry{{Day: 1, To: 1, Number: 6}} // more than there are
	for _, h := range heldOutside() {
		for _, list := range [][]impl.Holding{{fine, h}, {h, fine}, {fine, fine, h}, {h, h}} {
			is(t, "ErrRange is ahead of ErrState", "[2 2 2 2]", errorsOfReplay(book{p, list, one}))
			is(t, "ErrRange without entries", "[2 2 2]", errorsOfReplay(book{p, list, nil}))
			for _, wrong := range invalidPrices() {
				is(t, "prices are ahead of ErrRange", "[1 1 1 1]", errorsOfReplay(book{wrong, list, one}))
			}
			for _, e := range invalidEntries() {
				is(t, "an entry is ahead of ErrRange", "[1 1 1 1]", errorsOfReplay(book{p, list, []impl.Entry{e}}))
			}
			is(t, "81 entries are ahead of ErrRange", "[1 1 1]", errorsOfReplay(book{p, list, manyEntries(81)}))
		}
		is(t, "7 holdings are ahead of ErrRange", "[1 1 1 1]", errorsOfReplay(book{p, slices.Repeat([]impl.Holding{h}, 7), one}))
		is(t, "an entry for more parties is ahead of ErrRange", "[1 1 1 1]", errorsOfReplay(book{p, []impl.Holding{h}, one}))
	}
	is(t, "no holdings", "[1 1 1 1]", errorsOfReplay(book{p, nil, one}))
	is(t, "no holdings, no entries", "[1 1 1]", errorsOfReplay(book{p, nil, nil}))
	is(t, "7 holdings", "[1 1 1]", errorsOfReplay(book{p, make([]impl.Holding, 7), nil}))
	is(t, "many holdings", "[1 1 1 1]", errorsOfReplay(book{p, make([]impl.Holding, 200000), one}))
	is(t, "an entry for more parties", "[1 1 1 1]", errorsOfReplay(book{p, []impl.Holding{fine, fine}, []impl.Entry{{Day: 1, To: 2, Number: 1}}}))
	is(t, "ErrState, found and explained", "[4 0 0 4]", errorsOfReplay(book{p, []impl.Holding{fine, fine}, one}))
	is(t, "days in another order", "[1 1 1]", errorsOfReplay(book{p, []impl.Holding{fine, fine}, []impl.Entry{{Day: 2, To: 1, Number: 1}, {Day: 1, To: 1, Number: 1}}}))
}

// P14: also entry by entry.
func TestReplayLedger(t *testing.T) {
	codes := map[int64]int{}
	for _, b := range sampleBooks() {
		list, index, code := replayIn(b)
		codes[code]++
		is(t, "replayed", show(list, code), two(impl.ReplayLedger(b.p, b.list, b.entries)))
		if code == impl.OK {
			is(t, "nothing wrong", "0 0 6", three(impl.FirstWrong(b.p, b.list, b.entries)))
			continue
		}
		is(t, "wrong", show(index, code, 0), three(impl.FirstWrong(b.p, b.list, b.entries)))
		is(t, "fine ahead of it", "0 0 6", three(impl.FirstWrong(b.p, b.list, b.entries[:index])))
	}
	if codes[impl.OK] < 150 || codes[impl.ErrState] < 50 || codes[impl.ErrLimit] < 20 {
		t.Errorf("the samples are replayed with %v", codes)
	}
}

func TestReplayLedgerEdges(t *testing.T) {
	p, list := impl.Prices{Bottle: 8, Crate: 150}, []impl.Holding{{Full: 80, Empty: 1, Broken: 1000000}, {Crates: 1000000}}
	replay := func(text string) string {
		entries := ledger(t, text)
		return two(impl.ReplayLedger(p, list, entries)) + " " + three(impl.FirstWrong(p, list, entries))
	}
	is(t, "no entries", "[{80 1 0 1000000 0} {0 0 1000000 0 0}] 0 0 0 6", replay(""))
	is(t, "what has come can go on", "[{79 2 0 1000000 0} {0 0 1000000 0 0}] 0 0 0 6", replay("1 0>1 full 1\n1 1>1 drink 1\n1 1>0 empty 1\n"))
	is(t, "not ahead of it", "[] 4 0 4 0", replay("1 1>1 drink 1\n1 0>1 full 1\n1 1>0 empty 1\n"))
	is(t, "the first one of several", "[] 4 1 4 0", replay("1 0>1 full 1\n1 1>0 empty 1\n1 1>0 empty 2\n2 1>1 break 9\n"))
	is(t, "ErrLimit behind others", "[] 3 2 3 0", replay("1 1>0 crate 1\n2 0>1 crate 1\n2 0>0 break 2\n3 0>1 crate 1\n"))
	is(t, "ErrLimit ahead of ErrState", "[] 3 0 3 0", replay("1 0>0 break 1\n2 0>1 full 81\n"))
	is(t, "ErrState ahead of ErrLimit", "[] 4 0 4 0", replay("1 0>1 full 81\n1 0>0 break 1\n"))
	entries := manyEntries(80)
	is(t, "80 entries", "[{0 1 0 1000000 640} {80 0 1000000 0 -640}] 0", two(impl.ReplayLedger(p, list, entries)))
	entries[79].Number = 2
	is(t, "the last of 80", "[] 4 79 4 0", two(impl.ReplayLedger(p, list, entries)), three(impl.FirstWrong(p, list, entries)))
	is(t, "81 entries", "[] 1 0 0 1", two(impl.ReplayLedger(p, list, manyEntries(81))), three(impl.FirstWrong(p, list, manyEntries(81))))
}

func TestOutAt(t *testing.T) {
	for _, b := range sampleBooks() {
		for _, h := range b.list {
			worth := h.Money
			worth += h.Full * int64(b.p.Bottle)
			worth += h.Empty * int64(b.p.Bottle)
			worth += h.Crates * int64(b.p.Crate)
			is(t, "worth", show(worth, 0), two(impl.OutAt(b.p, h)))
		}
	}
	most := impl.Holding{Full: 1000000, Empty: 1000000, Crates: 1000000, Broken: 1000000, Money: 1000000000}
	is(t, "most", "4000000000 0", two(impl.OutAt(impl.Prices{Bottle: 1000, Crate: 1000}, most)))
	is(t, "broken ones are worth nothing", "0 0", two(impl.OutAt(impl.Prices{Bottle: 1000, Crate: 1000}, impl.Holding{Broken: 7})))
	is(t, "less than 0", "-1000000000 0", two(impl.OutAt(impl.Prices{}, impl.Holding{Full: 7, Crates: 3, Money: -1000000000})))
	for _, p := range invalidPrices() {
		is(t, "prices", "0 1 0 1", two(impl.OutAt(p, most)), two(impl.OutAt(p, impl.Holding{Full: -1})))
	}
	for _, h := range heldOutside() {
		is(t, "outside", "0 2", two(impl.OutAt(impl.Prices{Bottle: 8}, h)))
	}
	is(t, "far outside", "0 2", two(impl.OutAt(impl.Prices{}, impl.Holding{Full: math.MaxInt64, Empty: 1})))
}
