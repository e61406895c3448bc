package tests

import (
	"math"
	"slices"
	"testing"

	"loop.example/g01353/impl"
)

// ledger returns the ledger with a text.
func ledger(t *testing.T, text string) []impl.Entry {
	t.Helper()
	entries, code := impl.ReadLedger(text)
	if code != impl.OK {
		t.Fatalf("%q is read with %d", text, code)
	}
	return entries
}

// ledgerText returns the text of a ledger, and a code.
func ledgerText(entries []impl.Entry, code int64) string {
	return show(impl.LedgerText(entries), code)
}

// entry returns the entry with a text, without its newline.
func entry(t *testing.T, text string) impl.Entry {
	t.Helper()
	return ledger(t, text+"\n")[0]
}

func holding(full, empty, crates, broken, money int64) impl.Holding {
	return impl.Holding{Full: full, Empty: empty, Crates: crates, Broken: broken, Money: money}
}

// book is a ledger with what parties have ahead of it.
type book struct {
	p       impl.Prices
	list    []impl.Holding
	entries []impl.Entry
}

func (b book) parties() int64 { return int64(len(b.list)) }

const exampleLedger = "1 0>1 full 12\n1 0>1 crate 1\n2 1>1 drink 10\n2 1>1 break 1\n3 1>0 empty 10\n"

// bookExample returns what the chapter's example is about.
func bookExample(t *testing.T) book {
	t.Helper()
	return book{impl.Prices{Bottle: 8, Crate: 150}, []impl.Holding{{Full: 20, Crates: 2}, {}}, ledger(t, exampleLedger)}
}

// numberMaker returns a function that makes numbers, always the same ones.
func numberMaker(state uint32) func(below int) int {
	return func(below int) int {
		state = state*1664525 + 1013904223
		return int(state>>8) % below
	}
}

func randomEntry(next func(below int) int, parties, most int) impl.Entry {
	e := impl.Entry{From: int8(next(parties)), What: uint8(next(5)), Number: int16(1 + next(most))}
	if parties == 1 {
		e.What = uint8(3 + next(2))
	}
	e.To = e.From
	if e.What < impl.WhDrink {
		e.To = int8((int(e.From) + 1 + next(parties-1)) % parties)
	}
	return e
}

// randomHoldings returns what some parties have: little, a lot, or nearly as
// much as may be.
func randomHoldings(next func(below int) int, parties, style int) []impl.Holding {
	var list []impl.Holding
	for range parties {
		h := impl.Holding{Full: int64(next(40)), Empty: int64(next(20)), Crates: int64(next(9)), Broken: int64(next(3)), Money: int64(next(900) - 450)}
		switch {
		case style == 1:
			h = impl.Holding{Full: int64(next(40000)), Empty: int64(next(20000)), Crates: int64(next(30000)), Broken: int64(next(999)), Money: int64(next(9000000) - 4500000)}
		case style == 2 && next(2) == 0:
			h = impl.Holding{Full: 1000000 - h.Full, Empty: 1000000 - h.Empty, Crates: 1000000 - h.Crates, Broken: 1000000 - h.Broken, Money: 1000000000 - int64(next(5000))}
		case style == 2:
			h.Money = int64(next(5000)) - 1000000000
		}
		list = append(list, h)
	}
	return list
}

// sampleBooks returns books of 1 to MaxParties parties with 0 to MaxEntries
// entries, of which in every other book all can be applied.
func sampleBooks() []book {
	next := numberMaker(23)
	var books []book
	for round := range 420 {
		parties := 1 + round%impl.MaxParties
		b := book{p: impl.Prices{Bottle: int16(next(30)), Crate: int16(next(1001))}, list: randomHoldings(next, parties, round/impl.MaxParties%3)}
		if round%5 == 0 {
			b.p.Bottle = int16(round % 2 * impl.MaxPrice)
		}
		most, day, state := 6, 0, b.list
		if round%7 == 0 {
			most = 1000
		}
		for range round * 7 % (impl.MaxEntries + 1) {
			e := randomEntry(next, parties, most)
			day += next(2) * next(4)
			e.Day = int16(day)
			behind, code := applyIn(b.p, state, e)
			if code == impl.OK {
				state = behind
			}
			if code == impl.OK || round%2 == 0 {
				b.entries = append(b.entries, e)
			}
		}
		books = append(books, b)
	}
	return append(books, limitBooks()...)
}

// limitBooks returns books whose numbers are on their limits.
func limitBooks() []book {
	full := impl.Holding{Full: 1000000, Empty: 1000000, Crates: 1000000, Broken: 1000000, Money: 1000000000}
	debt := impl.Holding{Money: -1000000000}
	late := impl.Entry{Day: 10000, From: 5, To: 4, What: impl.WhFull, Number: 1000}
	own := impl.Entry{What: impl.WhDrink, Number: 1}
	six := []impl.Holding{debt, debt, {}, {}, {}, full}
	return []book{
		{impl.Prices{}, []impl.Holding{full}, nil}, {impl.Prices{Bottle: 1000, Crate: 1000}, []impl.Holding{debt, full}, nil},
		{impl.Prices{}, six, slices.Repeat([]impl.Entry{late}, impl.MaxEntries)},
		{impl.Prices{Bottle: 1000}, six, slices.Repeat([]impl.Entry{late}, impl.MaxEntries)},
		{impl.Prices{Crate: 1000}, []impl.Holding{{Full: 80}}, slices.Repeat([]impl.Entry{own}, impl.MaxEntries)},
		{impl.Prices{Crate: 1000}, []impl.Holding{{Full: 79}}, slices.Repeat([]impl.Entry{own}, impl.MaxEntries)},
	}
}

func isHeld(h impl.Holding) bool {
	for _, number := range []int64{h.Full, h.Empty, h.Crates, h.Broken} {
		if number < 0 || number > 1000000 {
			return false
		}
	}
	return h.Money >= -1000000000 && h.Money <= 1000000000
}

// applyIn does what an entry tells one by one.
func applyIn(p impl.Prices, list []impl.Holding, e impl.Entry) ([]impl.Holding, int64) {
	own := slices.Clone(list)
	from, to := &own[e.From], &own[e.To]
	for range e.Number {
		var paid int16
		switch e.What {
		case impl.WhFull:
			from.Full, to.Full, paid = from.Full-1, to.Full+1, p.Bottle
		case impl.WhEmpty:
			from.Empty, to.Empty, paid = from.Empty-1, to.Empty+1, p.Bottle
		case impl.WhCrate:
			from.Crates, to.Crates, paid = from.Crates-1, to.Crates+1, p.Crate
		case impl.WhDrink:
			from.Full, from.Empty = from.Full-1, from.Empty+1
		case impl.WhBreak:
			from.Full, from.Broken = from.Full-1, from.Broken+1
		}
		to.Money -= int64(paid)
		from.Money += int64(paid)
		if from.Full < 0 || from.Empty < 0 || from.Crates < 0 {
			return nil, impl.ErrState
		}
	}
	for _, h := range own {
		if !isHeld(h) {
			return nil, impl.ErrLimit
		}
	}
	return own, impl.OK
}

// replayIn applies entry by entry, and returns the index of the first wrong one.
func replayIn(b book) (list []impl.Holding, index int, code int64) {
	list = slices.Clone(b.list)
	for i, e := range b.entries {
		behind, code := applyIn(b.p, list, e)
		if code != impl.OK {
			return nil, i, code
		}
		list = behind
	}
	return list, 0, impl.OK
}

// noParties returns numbers that are none of parties.
func noParties() []int64 { return []int64{0, -1, 7, 1 << 40, math.MinInt64, math.MaxInt64} }

func invalidPrices() []impl.Prices {
	var list []impl.Prices
	for _, wrong := range []int16{-1, 1001, math.MinInt16, math.MaxInt16} {
		list = append(list, impl.Prices{Bottle: wrong}, impl.Prices{Crate: wrong}, impl.Prices{Bottle: wrong, Crate: wrong}, impl.Prices{Bottle: 8, Crate: wrong})
	}
	return list
}

// invalidEntries returns such as are not valid for any number of parties.
func invalidEntries() []impl.Entry {
	fine, own := impl.Entry{Day: 5, To: 1, Number: 3}, impl.Entry{Day: 5, What: impl.WhBreak, Number: 3}
	var list []impl.Entry
	for _, e := range []impl.Entry{fine, own} {
		for _, wrong := range []int16{-1, 10001, math.MinInt16, math.MaxInt16} {
			other := e
			other.Day = wrong
			list = append(list, other)
		}
		for _, wrong := range []int16{0, -1, 1001, math.MinInt16, math.MaxInt16} {
			other := e
			other.Number = wrong
			list = append(list, other)
		}
		for _, wrong := range []int8{-1, 6, math.MinInt8, math.MaxInt8} {
			one, other, both := e, e, e
			one.From, other.To, both.From, both.To = wrong, wrong, wrong, wrong
			list = append(list, one, other, both)
		}
		for _, wrong := range []uint8{5, 6, 128, 255} {
			other := e
			other.What = wrong
			list = append(list, other)
		}
	}
	for what := range uint8(5) {
		// Those that go need another party, and the others the same one.
		e := impl.Entry{Day: 5, What: what, Number: 3}
		if what >= impl.WhDrink {
			e.To = 1
		}
		list = append(list, e, impl.Entry{Day: 5, From: 1, To: 1 - e.To, What: what, Number: 3})
	}
	return append(list, impl.Entry{})
}

// heldOutside returns holdings with one number that is not within its bounds.
func heldOutside() []impl.Holding {
	var list []impl.Holding
	for _, wrong := range []int64{-1, 1000001, math.MinInt64, math.MaxInt64} {
		list = append(list, impl.Holding{Full: wrong}, impl.Holding{Empty: wrong}, impl.Holding{Crates: wrong}, impl.Holding{Broken: wrong})
	}
	for _, wrong := range []int64{-1000000001, 1000000001, math.MinInt64, math.MaxInt64} {
		list = append(list, impl.Holding{Money: wrong}, impl.Holding{Full: 9, Money: wrong})
	}
	return list
}

// manyEntries returns so many entries, day by day, that can all be applied if the
// party 0 has enough.
func manyEntries(number int) []impl.Entry {
	var list []impl.Entry
	for day := range number {
		list = append(list, impl.Entry{Day: int16(day), To: 1, Number: 1})
	}
	return list
}
