package tests

import (
	"fmt"
	"slices"
	"strings"
	"testing"

	"loop.example/g01353/impl"
)

func TestLedgerTexts(t *testing.T) {
	words := map[uint8]string{impl.WhFull: "full", impl.WhEmpty: "empty", impl.WhCrate: "crate", impl.WhDrink: "drink", impl.WhBreak: "break"}
	for _, b := range sampleBooks() {
		text := ""
		for _, e := range b.entries {
			text += fmt.Sprintf("%d %d>%d %s %d\n", e.Day, e.From, e.To, words[e.What], e.Number)
		}
		is(t, "text", text, impl.LedgerText(b.entries))
		read, code := impl.ReadLedger(text)
		is(t, "read", show(b.entries, 0), read, code)
		is(t, "same", "true true", impl.SameLedger(b.entries, read), impl.ValidLedger(6, read))
	}
	is(t, "the example", exampleLedger, impl.LedgerText(ledger(t, exampleLedger)))
	is(t, "no entries", "", impl.LedgerText(nil))
	is(t, "the empty text", "[] 0", two(impl.ReadLedger("")))
	is(t, "limits reached", "[{0 0 5 0 1} {10000 5 5 4 1000}] 0", two(impl.ReadLedger("0 0>5 full 1\n10000 5>5 break 1000\n")))
	is(t, "what goes", "[{7 0 1 0 1} {7 0 1 1 1} {7 0 1 2 1}] 0", two(impl.ReadLedger("7 0>1 full 1\n7 0>1 empty 1\n7 0>1 crate 1\n")))
	is(t, "what stays", "[{7 1 1 3 1} {7 1 1 4 1}] 0", two(impl.ReadLedger("7 1>1 drink 1\n7 1>1 break 1\n")))
}

func TestLedgerTextInvalid(t *testing.T) {
	fine := impl.Entry{Day: 5, To: 1, Number: 3}
	for _, e := range invalidEntries() {
		is(t, show(e), "", impl.LedgerText([]impl.Entry{e}))
		is(t, show(e), "", impl.LedgerText([]impl.Entry{fine, e}))
		is(t, show(e), "", impl.LedgerText([]impl.Entry{e, fine}))
	}
	is(t, "days in another order", "", impl.LedgerText([]impl.Entry{fine, {Day: 4, To: 1, Number: 3}}))
	is(t, "81", "", impl.LedgerText(manyEntries(81)))
	is(t, "many", "", impl.LedgerText(slices.Repeat([]impl.Entry{fine}, 190000)))
}

func TestReadLedgerFull(t *testing.T) {
	line := "10000 5>4 crate 1000\n"
	entries, code := impl.ReadLedger(strings.Repeat(line, 80))
	is(t, "80", "80 0", len(entries), code)
	is(t, "their text", strings.Repeat(line, 80), impl.LedgerText(entries))
	is(t, "81", "[] 5", two(impl.ReadLedger(strings.Repeat(line, 81))))
}

func TestReadLedgerNearlyRight(t *testing.T) {
	texts := []string{
		" ", "\n", "x", "\t", "\r\n", "\x00", "1 0>1 full 2", "\n1 0>1 full 2\n", "1 0>1 full 2\n\n", "1 0>1 full 2\n \n", "1 0>1 full 2\n1 0>1 full 2",
		"1 0>1 full 2\r\n", "1 0>1 full 2 \n", " 1 0>1 full 2\n", "1  0>1 full 2\n", "1 0>1  full 2\n", "1 0>1 full  2\n", "1\t0>1 full 2\n",
		"1 0>1\u00a0full 2\n",
		"1 0>1 full 2\v\n", "1 0>1 full 2\x00\n", "1 0>1 full 2\u0085", "1 0>1 full 2\u2028", "1 0>1 full 2 1 0>1 full 2\n", "1 0>1 full 2;1 0>1 full 2\n",
		"1 0>1\nfull 2\n",
		"1 0 > 1 full 2\n", "1 0 >1 full 2\n", "1 0> 1 full 2\n", "1 0-1 full 2\n", "1 0<1 full 2\n", "1 01 full 2\n", "1 0>>1 full 2\n", "1 0>1> full 2\n",
		"1 >0>1 full 2\n", "1 0>1>1 full 2\n",
		"1 >1 full 2\n", "1 0> full 2\n", "1 > full 2\n", "1 0 full 2\n", "1 0 1 full 2\n", "1>0>1 full 2\n", "0>1 full 2\n", "1 full 2\n", "1 0>1 2\n",
		"1 0>1 full\n", "1 0>1 full2\n", "1 0>1 2 full\n", "1 0>1 full 2 3\n",
		"1 0>1 Full 2\n", "1 0>1 FULL 2\n", "1 0>1 ful 2\n", "1 0>1 fulls 2\n", "1 0>1 crates 2\n", "1 0>1 money 2\n", "1 0>1 0 2\n", "1 0>1 - 2\n",
		"1 0>1 broken 2\n", "1 0>1  2\n",
		"1 0>0 full 2\n", "1 0>0 empty 2\n", "1 0>0 crate 2\n", "1 0>1 drink 2\n", "1 0>1 break 2\n",
		"-1 0>1 full 2\n", "-0 0>1 full 2\n", "+1 0>1 full 2\n", "01 0>1 full 2\n", "00 0>1 full 2\n", "10001 0>1 full 2\n", "32768 0>1 full 2\n",
		"65537 0>1 full 2\n", "18446744073709551617 0>1 full 2\n", "1.0 0>1 full 2\n", "1e0 0>1 full 2\n", "0x1 0>1 full 2\n", "1_0 0>1 full 2\n",
		"a 0>1 full 2\n", "١ 0>1 full 2\n",
		"1 -1>1 full 2\n", "1 -0>1 full 2\n", "1 +0>1 full 2\n", "1 00>1 full 2\n", "1 6>1 full 2\n", "1 256>1 full 2\n", "1 128>1 full 2\n",
		"1 a>1 full 2\n", "1 0.0>1 full 2\n",
		"1 0>-1 full 2\n", "1 1>-0 full 2\n", "1 0>+1 full 2\n", "1 0>01 full 2\n", "1 0>6 full 2\n", "1 0>257 full 2\n", "1 0>b full 2\n",
		"1 6>6 drink 2\n", "1 0>00 drink 2\n", "1 0>256 drink 2\n",
		"1 0>1 full 0\n", "1 0>1 full -2\n", "1 0>1 full +2\n", "1 0>1 full 02\n", "1 0>1 full 1001\n", "1 0>1 full 32768\n", "1 0>1 full 65538\n",
		"1 0>1 full 2.0\n", "1 0>1 full 2e0\n", "1 0>1 full 0x2\n", "1 0>1 full ２\n", "1 0>1 full two\n",
		"2 0>1 full 2\n1 0>1 full 2\n", "1 0>1 full 2\n2 0>1 full 2\n1 0>1 full 2\n", "1 0>1 full 2\n1 0>1 full 0\n", "1 0>1 full 2\n1 0>0 full 2\n",
		strings.Repeat("\n", 900000), strings.Repeat(" ", 900000), strings.Repeat(">", 900000), strings.Repeat("1 0>1 full 2\n", 75000), strings.Repeat("1 0>1 full 2 ", 75000) + "\n",
		"1 0>1 full " + strings.Repeat("0", 900000) + "2\n", strings.Repeat("9", 900000) + " 0>1 full 2\n",
	}
	for _, text := range texts {
		if got := two(impl.ReadLedger(text)); got != "[] 5" {
			t.Errorf("%.40q is read as %s", text, got)
		}
	}
	// Each text with one byte less or another one is either read exactly, or not at all.
	for i := range exampleLedger {
		for _, other := range []string{"", "0", "1", " ", "\n", ">", "-", "+", "e", "\x00", "\xff"} {
			text := exampleLedger[:i] + other + exampleLedger[i+1:]
			entries, code := impl.ReadLedger(text)
			if code == impl.OK {
				is(t, "read", text, impl.LedgerText(entries))
				continue
			}
			is(t, "not read", "[] 5", entries, code)
		}
	}
}
