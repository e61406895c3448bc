package tests

import (
	"slices"
	"sync"
	"testing"

	"loop.example/g01353/impl"
)

// bookCall is a call of a function of chapter 6, and what it returns if what it
// gets is not valid.
type bookCall struct {
	name    string
	invalid string
	run     func(b book) string
}

// lastEntry returns the last entry, or one that is fine for two parties.
func lastEntry(b book) impl.Entry {
	if len(b.entries) == 0 {
		return impl.Entry{To: 1, Number: 1}
	}
	return b.entries[len(b.entries)-1]
}

// replayCalls are calls that get prices, holdings and entries.
func replayCalls() []bookCall {
	return []bookCall{
		{"ReplayLedger", "[] 1", func(b book) string { return two(impl.ReplayLedger(b.p, b.list, b.entries)) }},
		{"FirstWrong", "0 0 1", func(b book) string { return three(impl.FirstWrong(b.p, b.list, b.entries)) }},
		{"ApplyEntry", "[] 1", func(b book) string { return two(impl.ApplyEntry(b.p, b.list, lastEntry(b))) }},
		{"ExplainedBy", "0 1", func(b book) string { return two(impl.ExplainedBy(b.p, b.list, b.entries, b.list)) }},
		{"ExplainedBy zeros", "0 1", func(b book) string {
			return two(impl.ExplainedBy(b.p, b.list, b.entries, make([]impl.Holding, len(b.list))))
		}},
	}
}

// ledgerCalls are calls that get a ledger for some parties.
func ledgerCalls() []bookCall {
	return []bookCall{
		{"LentBetween", "0 1", func(b book) string { return two(impl.LentBetween(b.parties(), b.entries, 0, b.parties()-1)) }},
		{"LentBetween the same", "0 1", func(b book) string { return two(impl.LentBetween(b.parties(), b.entries, 1, 1)) }},
		{"PartOfLedger", "[] 1", func(b book) string { return two(impl.PartOfLedger(b.parties(), b.entries, 0)) }},
		{"PartOfLedger no party", "[] 1", func(b book) string { return two(impl.PartOfLedger(b.parties(), b.entries, -1)) }},
		{"MergeLedgers", "[] 1", func(b book) string { return two(impl.MergeLedgers(b.parties(), b.entries, b.entries)) }},
		{"MergeLedgers first", "[] 1", func(b book) string { return two(impl.MergeLedgers(b.parties(), b.entries, nil)) }},
		{"MergeLedgers behind", "[] 1", func(b book) string { return two(impl.MergeLedgers(b.parties(), nil, b.entries)) }},
		{"ValidLedger", "false", func(b book) string { return show(impl.ValidLedger(b.parties(), b.entries)) }},
	}
}

// otherCalls are calls that get something that need not be valid, or only
// holdings or nets.
func otherCalls() []bookCall {
	return []bookCall{
		{"SumOf", "", func(b book) string { return two(impl.SumOf(b.list)) }},
		{"NetsOf", "", func(b book) string { return two(impl.NetsOf(b.list)) }},
		{"MissingIn", "", func(b book) string { return two(impl.MissingIn(b.entries, b.entries[len(b.entries)/2:])) }},
		{"BreakageOf", "", func(b book) string { return two(impl.BreakageOf(b.entries)) }},
		{"SameLedger", "", func(b book) string { return show(impl.SameLedger(b.entries, b.entries[len(b.entries)/2:])) }},
		{"LedgerText", "", func(b book) string { return impl.LedgerText(b.entries) }},
		{"FewestPayments", "", func(b book) string { return two(impl.FewestPayments(netsIn(b))) }},
		{"CheckPayments", "", func(b book) string {
			nets := netsIn(b)
			list, _ := impl.FewestPayments(nets)
			return two(impl.CheckPayments(nets, list))
		}},
	}
}

// netsIn returns nets with the sum 0, and unused capacity.
func netsIn(b book) []int64 {
	nets := append(make([]int64, 0, 9), 0)
	for i, h := range b.list {
		if i > 0 {
			nets = append(nets, h.Money/6)
			nets[0] -= h.Money / 6
		}
	}
	return nets
}

func allBookCalls() []bookCall { return slices.Concat(replayCalls(), ledgerCalls(), otherCalls()) }

// P1: ErrInvalid comes first, and all other results are zero values then.
func TestInvalidBooks(t *testing.T) {
	b := bookExample(t)
	for _, p := range invalidPrices() {
		for _, one := range replayCalls() {
			is(t, one.name+" prices", one.invalid, one.run(book{p, b.list, b.entries}))
			is(t, one.name+" prices, no entries", one.invalid, one.run(book{p, b.list, nil}))
		}
	}
	for _, e := range invalidEntries() {
		for _, one := range slices.Concat(replayCalls(), ledgerCalls()) {
			is(t, one.name+" entry", one.invalid, one.run(book{b.p, b.list, []impl.Entry{e}}))
			is(t, one.name+" behind", one.invalid, one.run(book{b.p, b.list, append(slices.Clone(b.entries), e)}))
		}
	}
	// ApplyEntry gets no more than the last entry.
	for _, one := range append(slices.DeleteFunc(replayCalls(), func(one bookCall) bool { return one.name == "ApplyEntry" }), ledgerCalls()...) {
		is(t, one.name+" 81", one.invalid, one.run(book{b.p, b.list, manyEntries(81)}))
		is(t, one.name+" many", one.invalid, one.run(book{b.p, b.list, make([]impl.Entry, 90000)}))
		is(t, one.name+" days", one.invalid, one.run(book{b.p, b.list, append(manyEntries(9), manyEntries(1)...)}))
	}
	for _, list := range [][]impl.Holding{nil, make([]impl.Holding, 7), make([]impl.Holding, 90000)} {
		for _, one := range slices.Concat(replayCalls(), ledgerCalls()) {
			is(t, one.name+" parties", one.invalid, one.run(book{b.p, list, b.entries}))
			is(t, one.name+" parties, no entries", one.invalid, one.run(book{b.p, list, nil}))
		}
	}
	for _, one := range slices.Concat(replayCalls(), ledgerCalls()) {
		is(t, one.name+" of one party", one.invalid, one.run(book{b.p, b.list[:1], ledger(t, "1 0>1 full 1\n")}))
	}
}

// closeBook returns the same, with something else as unused capacity.
func closeBook(b book) (near book, list []impl.Holding, entries []impl.Entry) {
	list = append(slices.Clone(b.list), impl.Holding{Full: -7}, impl.Holding{Money: 99})
	entries = append(slices.Clone(b.entries), impl.Entry{Day: -7}, impl.Entry{Number: 99})
	return book{b.p, list[:len(b.list)], entries[:len(b.entries)]}, list, entries
}

// P1: arguments are not modified, nor is the unused capacity of a slice, and
// results are equal for equal arguments.
func TestBookArgumentsAreKept(t *testing.T) {
	for _, b := range sampleBooks() {
		near, list, entries := closeBook(b)
		before := show(list, entries)
		for _, call := range allBookCalls() {
			is(t, call.name, call.run(b), call.run(near))
			is(t, call.name+" keeps", before, show(list, entries))
		}
	}
}

func TestNetsAreKept(t *testing.T) {
	payments := []impl.Payment{{From: 0, To: 1, Amount: 1}, {From: 1, To: 0, Amount: 1}, {From: 7, To: 0, Amount: 1}, {From: -9}}
	for _, nets := range sampleNets() {
		all := append(slices.Clone(nets), 5, 7)
		before := show(all, payments)
		impl.FewestPayments(all[:len(nets)])
		impl.CheckPayments(all[:len(nets)], payments[:2])
		impl.CheckPayments(all[:len(nets)], payments[:3])
		is(t, "kept", before, show(all, payments))
		is(t, "again", two(impl.FewestPayments(nets)), two(impl.FewestPayments(all[:len(nets)])))
	}
}

func TestNilBooks(t *testing.T) {
	for _, call := range allBookCalls() {
		b := bookExample(t)
		is(t, call.name, call.run(book{b.p, b.list, nil}), call.run(book{b.p, b.list, []impl.Entry{}}))
		is(t, call.name+" without holdings", call.run(book{b.p, nil, nil}), call.run(book{b.p, []impl.Holding{}, nil}))
	}
	is(t, "nets", "[] 1 false 1", two(impl.FewestPayments([]int64{})), two(impl.CheckPayments([]int64{}, nil)))
	is(t, "payments", "true 0 true 0", two(impl.CheckPayments([]int64{0}, nil)), two(impl.CheckPayments([]int64{0}, []impl.Payment{})))
}

// P1: a list that has been returned shares no memory with an argument or another one.
func TestBookResultsAreNew(t *testing.T) {
	for _, b := range sampleBooks()[:90] {
		near, list, entries := closeBook(b)
		before := show(list, entries)
		half := near.entries[:len(near.entries)/2]
		spoil(t, "ApplyEntry", func() []impl.Holding { own, _ := impl.ApplyEntry(near.p, near.list, lastEntry(near)); return own })
		spoil(t, "ReplayLedger", func() []impl.Holding { own, _ := impl.ReplayLedger(near.p, near.list, near.entries); return own })
		spoil(t, "ReplayLedger no entries", func() []impl.Holding { own, _ := impl.ReplayLedger(near.p, near.list, nil); return own })
		spoil(t, "MissingIn", func() []impl.Entry { part, _ := impl.MissingIn(near.entries, half); return part })
		spoil(t, "MissingIn none", func() []impl.Entry { part, _ := impl.MissingIn(near.entries, nil); return part })
		spoil(t, "PartOfLedger", func() []impl.Entry { part, _ := impl.PartOfLedger(near.parties(), near.entries, 0); return part })
		spoil(t, "MergeLedgers", func() []impl.Entry { all, _ := impl.MergeLedgers(near.parties(), half, near.entries); return all })
		spoil(t, "MergeLedgers none", func() []impl.Entry { all, _ := impl.MergeLedgers(near.parties(), near.entries, nil); return all })
		spoil(t, "MergeLedgers of none", func() []impl.Entry { all, _ := impl.MergeLedgers(near.parties(), nil, near.entries); return all })
		spoil(t, "NetsOf", func() []int64 { nets, _ := impl.NetsOf(near.list); return nets })
		spoil(t, "FewestPayments", func() []impl.Payment { list, _ := impl.FewestPayments(netsIn(near)); return list })
		spoil(t, "ReadLedger", func() []impl.Entry { read, _ := impl.ReadLedger(impl.LedgerText(near.entries)); return read })
		is(t, "arguments", before, show(list, entries))
	}
}

// P1: results are the same while others call as well, and nothing is looked at
// any more once a call has returned.
func TestBooksAtTheSameTime(t *testing.T) {
	samples := sampleBooks()[:60]
	var calls sync.WaitGroup
	for _, b := range samples {
		calls.Go(func() {
			own := slices.Clone(b.entries)
			for i := range own {
				if !impl.SameLedger(own, b.entries) {
					t.Errorf("%v is not the same", own)
				}
				own[i].Number++
				if impl.SameLedger(own, b.entries) {
					t.Errorf("%v is the same", own)
				}
				own[i].Number--
			}
		})
	}
	calls.Wait()
}
