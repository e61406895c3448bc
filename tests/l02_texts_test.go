package tests

import (
	"strings"
	"testing"

	"loop.example/g01353/impl"
)

func TestOrderTexts(t *testing.T) {
	for _, order := range sampleOrders() {
		text := impl.OrderText(order)
		var words []string
		for _, w := range order {
			words = append(words, show(w.Bottle.Kind)+":"+show(w.Bottle.Year)+"x"+show(w.Number))
		}
		is(t, "text", strings.Join(words, " "), text)
		read, code := impl.ReadOrder(text)
		is(t, "read", "true 0", impl.SameOrder(order, read), code)
	}
	for _, order := range invalidOrders() {
		is(t, "no text", "", impl.OrderText(order))
	}
	is(t, "no wants", "", impl.OrderText(nil))
	is(t, "the empty text", "[] 0", two(impl.ReadOrder("")))
	is(t, "most", "[{{20 2099} 144}] 0", two(impl.ReadOrder("20:2099x144")))
	is(t, "one", "[{{1 1900} 1}] 0", two(impl.ReadOrder("1:1900x1")))
}

func TestReadOrderNearlyRight(t *testing.T) {
	long := impl.OrderText(longOrder())
	texts := []string{
		" ", "\n", "x", "-", "1:2001", "1:2001x", "x1", "1:2001 x1", "1:2001x 1", "1:2001 1", "1:2001X1", "1:2001×1", "1:2001*1",
		"1:2001xx1", "1:2001x1x", "1:2001x1x1", "x1:2001x1", "1:2001x-1", "1:2001x+1", "1:2001x01", "1:2001x0", "1:2001x00",
		"1:2001x145", "1:2001x65537", "1:2001x32768", "1:2001x1.0", "1:2001x1e1", "1:2001x1_0", "1:2001x0x1", "1:2001xone",
		"1:2001x18446744073709551617", "01:2001x1", "+1:2001x1", "1:02001x1", "0:2001x1", "21:2001x1", "1:1899x1", "1:2100x1",
		"0:0x1", ":x", ":2001x1", "1:x1", "1x2001:1", "1:2001x1 ", " 1:2001x1", "1:2001x1\n", "\n1:2001x1", "1:2001x1\x00",
		"1:2001x1  3:1999x1", "1:2001x1\t3:1999x1", "1:2001x1\n3:1999x1", "1:2001x1\u00a03:1999x1", "1:2001x1,3:1999x1",
		"1:2001x1, 3:1999x1", "1:2001x13:1999x1", "3:1999x1 1:2001x1", "1:2001x1 1:2001x1", "1:2001x1 1:2000x1",
		"1:2001x1 -", "1:2001x1 3:1999", "1:2001x1 3:1999x0", "1:2001x١", long + " 20:1999x1", long + " ",
		strings.Repeat("1:2001x1 ", 100000), strings.Repeat(" ", 900000), "1:2001x" + strings.Repeat("0", 900000) + "1",
		strings.Repeat("x", 900000), strings.Repeat("1", 900000),
	}
	for _, text := range texts {
		if got := two(impl.ReadOrder(text)); got != "[] 5" {
			t.Errorf("%.40q is read as %s", text, got)
		}
	}
	is(t, "8 wants", show(longOrder(), 0), two(impl.ReadOrder(long)))
}
