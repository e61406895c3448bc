package tests

import (
	"strings"
	"testing"

	"loop.example/g01353/impl"
)

func TestRowTexts(t *testing.T) {
	for _, one := range sampleTurnings() {
		text := ""
		for _, turned := range one.r {
			text += show(turned)
		}
		is(t, "text", text, impl.RowText(one.r))
		read, code := impl.ReadRow(text)
		is(t, "read", show(one.r, 0), read, code)
		is(t, "same", "true true", impl.SameRow(one.r, read), impl.ValidRow(read))
	}
	for _, r := range invalidRows() {
		is(t, "invalid", "", impl.RowText(r))
	}
	is(t, "all digits", "01234567", impl.RowText(impl.Row{0, 1, 2, 3, 4, 5, 6, 7}))
	is(t, "read all digits", "[0 1 2 3 4 5 6 7] 0", two(impl.ReadRow("01234567")))
	is(t, "one", "[0] 0 [7] 0", two(impl.ReadRow("0")), two(impl.ReadRow("7")))
	is(t, "60", "60", len(impl.RowText(make(impl.Row, 60))))
	long, code := impl.ReadRow(strings.Repeat("7", 60))
	is(t, "read 60", "60 0", len(long), code)
}

func TestReadRowNearlyRight(t *testing.T) {
	texts := []string{
		"", " ", "\n", "8", "9", "08", "80", "0000\n", " 0000", "0000 ", "0 0", "00\n00", "-1", "+1", "1-", "0,1", "0/1", "a", "0a", "0x1",
		"1.0", "1e0", "1_0", "\x00", "\x07", "0\x00", "/", ":", "\xff", "\x80", "\xb0", "٣", "０", "\u00b2", "0\t1", "0000\r", "[0]",
		strings.Repeat("0", 61), strings.Repeat("7", 61), strings.Repeat("0", 59) + "8", strings.Repeat("0", 60) + "\n",
		strings.Repeat("0", 900000), strings.Repeat(" ", 900000), strings.Repeat("\xff", 900000),
	}
	for _, text := range texts {
		if got := two(impl.ReadRow(text)); got != "[] 5" {
			t.Errorf("%.40q is read as %s", text, got)
		}
	}
	for b := range 256 {
		want := "[] 5"
		if b >= '0' && b <= '7' {
			want = "[3 " + show(b-'0') + "] 0"
		}
		is(t, "each byte", want, two(impl.ReadRow("3"+string([]byte{byte(b)}))))
	}
}

func TestWalkerTexts(t *testing.T) {
	for _, one := range sampleTurnings() {
		for _, w := range one.list {
			var words []string
			for _, number := range []int16{w.First, w.Every, w.Start, w.Step, w.Count, int16(w.Turn)} {
				words = append(words, show(number))
			}
			is(t, "text", strings.Join(words, "/"), impl.WalkerText(w))
		}
	}
	for _, w := range invalidWalkers(t) {
		is(t, "invalid", "", impl.WalkerText(w))
	}
	for _, text := range []string{"0/2/0/2/2/1", "0/1/0/0/1/0", "10000/100/59/60/60/7", "10000/100/59/60/60/-7", "12/34/5/6/7/-1"} {
		is(t, "told", text, impl.WalkerText(walker(t, text)))
	}
	is(t, "nothing", "", impl.WalkerText(impl.Walker{}))
}
