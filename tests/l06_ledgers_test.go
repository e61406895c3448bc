package tests

import (
	"slices"
	"testing"

	"loop.example/g01353/impl"
)

func TestLentBetween(t *testing.T) {
	for _, b := range sampleBooks() {
		for one := range b.parties() {
			var all int64
			for other := range b.parties() {
				if other == one {
					continue
				}
				var lent int64
				for _, e := range b.entries {
					if e.What == impl.WhCrate && int64(e.From) == one && int64(e.To) == other {
						lent += int64(e.Number)
					}
					if e.What == impl.WhCrate && int64(e.From) == other && int64(e.To) == one {
						lent -= int64(e.Number)
					}
				}
				is(t, "lent", show(lent, 0), two(impl.LentBetween(b.parties(), b.entries, one, other)))
				is(t, "the other way", show(-lent, 0), two(impl.LentBetween(b.parties(), b.entries, other, one)))
				all += lent
			}
			if behind, code := impl.ReplayLedger(b.p, b.list, b.entries); code == impl.OK {
				is(t, "what it has no longer", show(b.list[one].Crates-behind[one].Crates), all)
			}
		}
	}
}

func TestLentBetweenEdges(t *testing.T) {
	entries := ledger(t, "1 0>1 crate 5\n1 0>1 full 9\n1 1>0 empty 9\n2 1>0 crate 2\n2 0>2 crate 7\n3 1>2 crate 1\n4 0>0 break 3\n")
	lent := func(a, b int64) string { return two(impl.LentBetween(3, entries, a, b)) }
	is(t, "each way", "3 0 -3 0 7 0 -7 0 1 0 -1 0", lent(0, 1), lent(1, 0), lent(0, 2), lent(2, 0), lent(1, 2), lent(2, 1))
	is(t, "no entries", "0 0", two(impl.LentBetween(6, nil, 5, 0)))
	is(t, "most", "80000 0", two(impl.LentBetween(2, slices.Repeat(ledger(t, "1 0>1 crate 1000\n"), 80), 0, 1)))
	for party := range int64(3) {
		is(t, "the same", "0 2", lent(party, party))
		for _, none := range []int64{-1, 3, 6, 256, 1 << 32, -1 << 63, 1<<63 - 1} {
			is(t, "no party", "0 2 0 2 0 2", lent(party, none), lent(none, party), lent(none, none))
		}
	}
	for _, parties := range noParties() {
		is(t, "ErrInvalid is first", "0 1 0 1", two(impl.LentBetween(parties, entries, 0, 0)), two(impl.LentBetween(parties, nil, 0, 1)))
	}
	is(t, "a ledger not valid", "0 1 0 1", two(impl.LentBetween(2, entries, 0, 1)), two(impl.LentBetween(2, entries, 2, 2)))
}

// occursIn returns how often an entry is there.
func occursIn(list []impl.Entry, e impl.Entry) int {
	n := 0
	for _, other := range list {
		if other == e {
			n++
		}
	}
	return n
}

// missingOf returns the entries of a ahead of which a has had each as often as b.
func missingOf(a, b []impl.Entry) []impl.Entry {
	var missing []impl.Entry
	for i, e := range a {
		if occursIn(a[:i], e) >= occursIn(b, e) {
			missing = append(missing, e)
		}
	}
	return missing
}

// twoLedgers are ledgers of which each one has some entries of the other one.
type twoLedgers struct {
	parties int64
	a, b    []impl.Entry
}

// sampleLedgers returns ledgers with few days, parties and numbers, so that
// many entries are there several times.
func sampleLedgers() []twoLedgers {
	next := numberMaker(41)
	var samples []twoLedgers
	for round := range 300 {
		one := twoLedgers{parties: int64(2 + round%2 + round%4)}
		day := 0
		for range round % 80 {
			e := randomEntry(next, 2+round%2, 1+round%3)
			if next(4) == 0 {
				day++
			}
			e.Day = int16(day)
			for range next(3) {
				one.a = append(one.a, e)
			}
			for range next(3) {
				one.b = append(one.b, e)
			}
		}
		one.a, one.b = one.a[:min(len(one.a), impl.MaxEntries)], one.b[:min(len(one.b), impl.MaxEntries)]
		samples = append(samples, one)
	}
	return samples
}

func TestMissingIn(t *testing.T) {
	several := 0
	for _, one := range sampleLedgers() {
		missing := missingOf(one.a, one.b)
		for _, e := range missing {
			if occursIn(one.b, e) > 0 {
				several++
			}
		}
		is(t, "missing", show(missing, 0), two(impl.MissingIn(one.a, one.b)))
		is(t, "the other way", show(missingOf(one.b, one.a), 0), two(impl.MissingIn(one.b, one.a)))
		is(t, "of itself", "[] 0", two(impl.MissingIn(one.a, one.a)))
	}
	if several < 100 {
		t.Errorf("only %d entries are there several times in both", several)
	}
}

func TestMissingInEdges(t *testing.T) {
	missing := func(a, b string) string { return ledgerText(impl.MissingIn(ledger(t, a), ledger(t, b))) }
	x, y := "1 0>1 full 2\n", "1 1>0 full 2\n"
	is(t, "none", " 0 "+x+" 0  0", missing("", ""), missing(x, ""), missing("", x))
	is(t, "the last ones", y+x+x+" 0", missing(x+y+x+x, x))
	is(t, "the last one", y+x+" 0", missing(x+x+y+x, x+x))
	is(t, "as many", " 0", missing(x+x, x+x))
	is(t, "more", " 0", missing(x+x, x+x+x))
	for _, other := range []string{"2 0>1 full 2\n", "1 2>1 full 2\n", "1 0>2 full 2\n", "1 0>1 empty 2\n", "1 0>1 full 3\n"} {
		is(t, "one number is another one", x+" 0", missing(x, other))
	}
	for _, e := range invalidEntries() {
		is(t, "not valid", show([]impl.Entry{e}, 0), two(impl.MissingIn([]impl.Entry{{Day: 3}, e, e}, []impl.Entry{e, {Day: 3}})))
	}
	is(t, "any order", "[{9 0 0 0 0} {3 0 0 0 0}] 0", two(impl.MissingIn([]impl.Entry{{Day: 9}, {Day: 5}, {Day: 3}}, []impl.Entry{{Day: 5}})))
	same := make([]impl.Entry, 81)
	is(t, "80", "[] 0", two(impl.MissingIn(same[:80], same[:80])))
	is(t, "80 of 80", show(same[:80], 0), two(impl.MissingIn(same[:80], nil)))
	is(t, "81", "[] 3 [] 3 [] 3", two(impl.MissingIn(same, nil)), two(impl.MissingIn(nil, same)), two(impl.MissingIn(same, same)))
	many := make([]impl.Entry, 100000)
	is(t, "many", "[] 3", two(impl.MissingIn(many, many)))
}

func TestPartOfLedger(t *testing.T) {
	for _, b := range sampleBooks() {
		for party := range b.parties() {
			var part []impl.Entry
			for _, e := range b.entries {
				if e.From == int8(party) || e.To == int8(party) {
					part = append(part, e)
				}
			}
			is(t, "part", show(part, 0), two(impl.PartOfLedger(b.parties(), b.entries, party)))
		}
	}
	entries := ledger(t, exampleLedger)
	is(t, "one who has nothing to do", "[] 0", two(impl.PartOfLedger(3, entries, 2)))
	is(t, "no entries", "[] 0", two(impl.PartOfLedger(1, nil, 0)))
	for _, none := range []int64{-1, 2, 6, 256, 1 << 32, -1 << 63, 1<<63 - 1} {
		is(t, "no party", "[] 2 [] 2", two(impl.PartOfLedger(2, entries, none)), two(impl.PartOfLedger(2, nil, none)))
		is(t, "ErrInvalid is first", "[] 1 [] 1", two(impl.PartOfLedger(1, entries, none)), two(impl.PartOfLedger(2, manyEntries(81), none)))
	}
	for _, parties := range noParties() {
		is(t, "no parties", "[] 1 [] 1", two(impl.PartOfLedger(parties, entries, 0)), two(impl.PartOfLedger(parties, nil, -1)))
	}
}

// mergedOf goes from day to day.
func mergedOf(a, b []impl.Entry) []impl.Entry {
	var merged []impl.Entry
	missing := missingOf(b, a)
	for day := range int16(200) {
		for _, list := range [][]impl.Entry{a, missing} {
			for _, e := range list {
				if e.Day == day {
					merged = append(merged, e)
				}
			}
		}
	}
	return merged
}

// P15: merged ledgers have all entries of both, and no more.
func TestMergeLedgers(t *testing.T) {
	codes := map[int64]int{}
	for _, one := range sampleLedgers() {
		want, code := mergedOf(one.a, one.b), int64(impl.OK)
		if len(want) > impl.MaxEntries {
			want, code = nil, impl.ErrLimit
		}
		codes[code]++
		merged, got := impl.MergeLedgers(one.parties, one.a, one.b)
		is(t, "merged", show(want, code), merged, got)
		if code != impl.OK {
			continue
		}
		is(t, "valid", "true", impl.ValidLedger(one.parties, merged))
		is(t, "nothing is missing", "[] 0 [] 0", two(impl.MissingIn(one.a, merged)), two(impl.MissingIn(one.b, merged)))
		for _, e := range merged {
			is(t, "as often", show(max(occursIn(one.a, e), occursIn(one.b, e))), occursIn(merged, e))
		}
	}
	if codes[impl.OK] < 200 || codes[impl.ErrLimit] < 20 {
		t.Errorf("the samples are merged with %v", codes)
	}
}

func TestMergeLedgersEdges(t *testing.T) {
	merge := func(a, b string) string { return ledgerText(impl.MergeLedgers(3, ledger(t, a), ledger(t, b))) }
	x, y, z := "1 0>1 full 2\n", "1 1>0 full 2\n", "2 0>1 full 2\n"
	is(t, "none", " 0 "+x+" 0 "+x+" 0", merge("", ""), merge(x, ""), merge("", x))
	is(t, "on one day those of a first", x+y+" 0 "+y+x+" 0", merge(x, y), merge(y, x))
	is(t, "by days", x+y+z+" 0 "+x+y+z+" 0", merge(x+z, y), merge(x, y+z))
	is(t, "what both have", x+y+z+" 0", merge(x+y, y+x+z))
	is(t, "several times", x+y+x+x+z+" 0", merge(x+y+x, x+x+x+z))
	is(t, "in the order of a", y+x+z+" 0", merge(y+x+z, x+y))
	entries, late := manyEntries(80), impl.Entry{Day: 9999, To: 1, Number: 1}
	is(t, "80 of both", show(entries, 0), two(impl.MergeLedgers(2, entries, entries)))
	is(t, "80 together", show(entries, 0), two(impl.MergeLedgers(2, entries[40:], entries[:60])))
	is(t, "81 together", "[] 3 [] 3", two(impl.MergeLedgers(2, entries, []impl.Entry{late})), two(impl.MergeLedgers(2, []impl.Entry{late}, entries)))
	is(t, "one more of those that are there", "[] 3", two(impl.MergeLedgers(2, entries, []impl.Entry{entries[0], entries[0]})))
	for _, e := range invalidEntries() {
		wrong := []impl.Entry{e}
		is(t, "not valid", "[] 1 [] 1", two(impl.MergeLedgers(2, wrong, nil)), two(impl.MergeLedgers(2, nil, wrong)))
		is(t, "ErrInvalid is first", "[] 1", two(impl.MergeLedgers(2, entries, append(slices.Repeat([]impl.Entry{entries[0]}, 9), e))))
	}
	is(t, "81", "[] 1 [] 1", two(impl.MergeLedgers(2, manyEntries(81), nil)), two(impl.MergeLedgers(2, entries, manyEntries(81))))
	for _, parties := range noParties() {
		is(t, "no parties", "[] 1 [] 1", two(impl.MergeLedgers(parties, nil, nil)), two(impl.MergeLedgers(parties, entries, nil)))
	}
}

// withoutAt leaves an entry out, or none if there is none with this index.
func withoutAt(b book, index int) book {
	return book{b.p, b.list, slices.DeleteFunc(slices.Clone(b.entries), func(impl.Entry) bool { index--; return index == -1 })}
}

// explainedIn leaves out each entry, one after the other, and then none.
func explainedIn(b book, counted []impl.Holding) (int, int64) {
	for index := range len(b.entries) + 1 {
		list, _, code := replayIn(withoutAt(b, index))
		if code == impl.OK && slices.Equal(list, counted) {
			return index, impl.OK
		}
	}
	return 0, impl.ErrNotFound
}

// P15: an entry that explains what has been counted does.
func TestExplainedBy(t *testing.T) {
	codes := map[int64]int{}
	earlier, all, healed := 0, 0, 0
	for i, b := range sampleBooks() {
		if len(b.entries) > 40 {
			b.entries = b.entries[:40]
		}
		_, wrong, fine := replayIn(b)
		if fine != impl.OK && i%4 == 0 {
			b.entries = b.entries[:wrong+1] // nothing else is wrong
		}
		for _, index := range []int{len(b.entries), wrong, i % (len(b.entries) + 1), i * 7 % (len(b.entries) + 1)} {
			counted, _, code := replayIn(withoutAt(b, index))
			if code != impl.OK {
				counted = b.list
			}
			want, code := explainedIn(b, counted)
			codes[code]++
			if code == impl.OK {
				switch {
				case want == len(b.entries):
					all++
				case fine != impl.OK:
					healed++
				case want < index:
					earlier++
				}
			}
			is(t, "explained", show(want, code), two(impl.ExplainedBy(b.p, b.list, b.entries, counted)))
			if len(counted) > 0 {
				counted = slices.Clone(counted)
				counted[i%len(counted)].Broken ^= 1
				want, code = explainedIn(b, counted)
				codes[code]++
				if isHeld(counted[i%len(counted)]) {
					is(t, "one more", show(want, code), two(impl.ExplainedBy(b.p, b.list, b.entries, counted)))
				}
			}
		}
	}
	if codes[impl.OK] < 500 || codes[impl.ErrNotFound] < 500 || earlier < 20 || all < 100 || healed < 30 {
		t.Errorf("the samples are explained with %v, %d by an earlier one, %d by all, %d that are wrong", codes, earlier, all, healed)
	}
}

func TestExplainedByEdges(t *testing.T) {
	b := bookExample(t)
	explained := func(text string, counted ...impl.Holding) string {
		return two(impl.ExplainedBy(b.p, b.list, ledger(t, text), counted))
	}
	is(t, "all of them", "5 0", explained(exampleLedger, holding(8, 10, 1, 0, 166), holding(1, 0, 1, 1, -166)))
	is(t, "no entries", "0 0 0 6", explained("", b.list...), explained("", holding(20, 0, 2, 0, 0), holding(0, 0, 0, 0, 1)))
	is(t, "the last one", "4 0", explained(exampleLedger, holding(8, 0, 1, 0, 246), holding(1, 10, 1, 1, -246)))
	is(t, "no crate", "1 0", explained(exampleLedger, holding(8, 10, 2, 0, 16), holding(1, 0, 0, 1, -16)))
	is(t, "nothing broken", "3 0", explained(exampleLedger, holding(8, 10, 1, 0, 166), holding(2, 0, 1, 0, -166)))
	is(t, "none without what was there", "0 6", explained(exampleLedger, b.list...))
	is(t, "the first of the same ones", "0 0", explained("1 0>1 full 3\n1 0>1 full 3\n", holding(17, 0, 2, 0, 24), holding(3, 0, 0, 0, -24)))
	is(t, "the first that changes the same", "1 0", explained("1 0>1 full 2\n1 0>1 full 3\n4 0>1 full 3\n", holding(15, 0, 2, 0, 40), holding(5, 0, 0, 0, -40)))
	is(t, "two are none", "0 6", explained("1 0>1 full 3\n1 0>1 full 3\n", b.list...))
	is(t, "forth and back", "2 0", explained("1 0>1 full 3\n1 1>0 full 3\n", b.list...))
	is(t, "without a wrong one", "1 0", explained("1 0>1 full 3\n1 1>1 drink 4\n", holding(17, 0, 2, 0, 24), holding(3, 0, 0, 0, -24)))
	is(t, "not the one that others need", "2 0", explained("1 0>1 full 3\n2 1>1 drink 3\n3 0>1 full 3\n", holding(17, 0, 2, 0, 24), holding(0, 3, 0, 0, -24)))
	is(t, "wrong ones that would make it", "0 6", explained("1 1>0 full 3\n2 0>1 full 3\n2 0>0 drink 21\n", b.list...))
	is(t, "wrong with all", "0 6", explained("1 1>0 full 3\n2 0>1 full 3\n", b.list...))
	entries := manyEntries(80)
	list := []impl.Holding{{Full: 80}, {}}
	is(t, "all of 80", "80 0", two(impl.ExplainedBy(impl.Prices{}, list, entries, []impl.Holding{{}, {Full: 80}})))
	is(t, "one of 80", "0 0", two(impl.ExplainedBy(impl.Prices{}, list, entries, []impl.Holding{{Full: 1}, {Full: 79}})))
	entries[79].Number = 2
	is(t, "the last of 80", "79 0", two(impl.ExplainedBy(impl.Prices{}, list, entries, []impl.Holding{{Full: 1}, {Full: 79}})))
}

func TestExplainedByErrors(t *testing.T) {
	b := bookExample(t)
	explained := func(p impl.Prices, list []impl.Holding, entries []impl.Entry, counted ...impl.Holding) string {
		return two(impl.ExplainedBy(p, list, entries, counted))
	}
	for _, h := range heldOutside() {
		wrong := []impl.Holding{{Full: 20}, h}
		is(t, "counted outside", "0 2 0 2", explained(b.p, b.list, b.entries, wrong...), explained(b.p, b.list, nil, h, h))
		is(t, "list outside", "0 2 0 2", explained(b.p, wrong, b.entries, b.list...), explained(b.p, wrong, nil, wrong...))
		is(t, "not as many, ahead of ErrRange", "0 1 0 1", explained(b.p, b.list, b.entries, h), explained(b.p, b.list, b.entries, h, h, h))
		is(t, "not as many, list outside", "0 1 0 1", explained(b.p, wrong, b.entries, h), explained(b.p, wrong, b.entries))
		for _, p := range invalidPrices() {
			is(t, "prices ahead of ErrRange", "0 1", explained(p, b.list, b.entries, wrong...))
		}
		for _, e := range invalidEntries() {
			is(t, "an entry ahead of ErrRange", "0 1", explained(b.p, b.list, []impl.Entry{e}, wrong...))
		}
	}
	is(t, "fewer", "0 1 0 1", explained(b.p, b.list, b.entries), explained(b.p, b.list, b.entries, b.list[:1]...))
	is(t, "more", "0 1", explained(b.p, b.list, b.entries, slices.Repeat(b.list, 2)...))
	is(t, "no holdings", "0 1 0 1", explained(b.p, nil, nil), explained(b.p, nil, b.entries))
	is(t, "7 holdings", "0 1", explained(b.p, make([]impl.Holding, 7), nil, make([]impl.Holding, 7)...))
	is(t, "81 entries", "0 1", explained(b.p, b.list, manyEntries(81), b.list...))
	is(t, "many counted", "0 1", explained(b.p, b.list, b.entries, make([]impl.Holding, 190000)...))
}

func TestBreakageOf(t *testing.T) {
	broken, round := map[int64]int{}, 0
	for _, b := range sampleBooks() {
		var drunk, lost int64
		for _, e := range b.entries {
			switch e.What {
			case impl.WhDrink:
				drunk += int64(e.Number)
			case impl.WhBreak:
				lost += int64(e.Number)
			}
		}
		want := "0 6"
		if drunk+lost > 0 {
			rate := int64(0)
			for (rate+1)*(drunk+lost) <= lost*1000 {
				rate++
			}
			broken[rate]++
			if rate*(drunk+lost) != lost*1000 {
				round++
			}
			want = show(rate, 0)
		}
		is(t, "breakage", want, two(impl.BreakageOf(b.entries)))
	}
	if len(broken) < 50 || round < 100 {
		t.Errorf("the samples break %v, and %d are rounded", broken, round)
	}
}

func TestBreakageOfEdges(t *testing.T) {
	drink := func(number int16) impl.Entry { return impl.Entry{What: impl.WhDrink, Number: number} }
	lose := func(number int16) impl.Entry { return impl.Entry{What: impl.WhBreak, Number: number} }
	breakage := func(entries ...impl.Entry) string { return two(impl.BreakageOf(entries)) }
	is(t, "no entries", "0 6", breakage())
	is(t, "none drunk or broken", "0 6", two(impl.BreakageOf(ledger(t, "1 0>1 full 3\n1 0>1 empty 3\n1 0>1 crate 3\n"))))
	is(t, "none broken", "0 0", breakage(drink(1)))
	is(t, "none drunk", "1000 0", breakage(lose(1)))
	is(t, "rounded down", "666 0 333 0 999 0 0 0", breakage(drink(1), lose(2)), breakage(drink(2), lose(1)), breakage(drink(1), lose(1000)), breakage(drink(1000), lose(1)))
	is(t, "numbers of 0", "0 6 1000 0", breakage(drink(0), lose(0)), breakage(drink(0), lose(1)))
	is(t, "numbers less than 0 count 0", "1000 0 0 0", breakage(drink(-5), lose(1)), breakage(drink(1), lose(-5)))
	is(t, "only numbers less than 0", "0 6 0 6 0 6", breakage(drink(-5)), breakage(lose(-5)), breakage(drink(-32768), lose(-1)))
	is(t, "each one by itself", "500 0", breakage(drink(-5), drink(4), lose(4), lose(-32768)))
	is(t, "numbers beyond 1000", "500 0", breakage(drink(32767), lose(32767)))
	lost, drunk := impl.Entry{Day: -7, From: -100, To: 99, What: impl.WhBreak, Number: 3}, impl.Entry{Day: 30000, From: 7, What: impl.WhDrink, Number: 1}
	is(t, "entries that are not valid", "750 0", breakage(lost, drunk))
	gone := []impl.Entry{{Number: 999}, {To: 1, Number: 999}, {What: impl.WhEmpty, Number: 32767}, {What: impl.WhCrate, Number: 999}, {What: impl.WhCrate, Number: -9}}
	is(t, "what goes counts nothing", "500 0 0 6", breakage(append(gone, drink(1), lose(1))...), breakage(gone...))
	is(t, "other kinds", "500 0", breakage(drink(1), lose(1), impl.Entry{What: 5, Number: 999}, impl.Entry{What: 255, Number: 999}))
	is(t, "only other kinds", "0 6", breakage(impl.Entry{What: 5, Number: 999}, impl.Entry{What: 255, Number: 999}))
	is(t, "80", "500 0", breakage(slices.Repeat([]impl.Entry{drink(32767), lose(32767)}, 40)...))
	is(t, "81", "0 3 0 3 0 3", breakage(slices.Repeat([]impl.Entry{lose(1)}, 81)...), breakage(make([]impl.Entry, 81)...), breakage(slices.Repeat([]impl.Entry{lose(-1)}, 81)...))
	is(t, "many", "0 3", breakage(make([]impl.Entry, 190000)...))
}
