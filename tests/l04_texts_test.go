package tests

import (
	"strings"
	"testing"

	"loop.example/g01353/impl"
)

func TestRackTexts(t *testing.T) {
	for _, r := range sampleRacks() {
		text := ""
		for _, list := range r {
			for i, s := range list {
				if i > 0 {
					text += " "
				}
				text += show(s.Bottle.Kind) + ":" + show(s.Bottle.Year) + "@" + show(s.Day)
			}
			text += "\n"
		}
		is(t, "text", text, impl.RackText(r))
		read, code := impl.ReadRack(text)
		is(t, "read", show(r, 0), read, code)
		is(t, "same", "true", impl.SameRack(r, read))
	}
	for _, r := range invalidRacks() {
		is(t, "invalid", "", impl.RackText(r))
	}
	is(t, "no lanes", "", impl.RackText(nil))
	is(t, "the empty text", "[] 0", two(impl.ReadRack("")))
	is(t, "an empty lane", "\n", impl.RackText(impl.Rack{nil}))
	is(t, "the text of an empty lane", "[[]] 0", two(impl.ReadRack("\n")))
	is(t, "8 empty lanes", "[[] [] [] [] [] [] [] []] 0", two(impl.ReadRack(strings.Repeat("\n", 8))))
	is(t, "limits reached", "[[{{20 2099} 2000} {{1 1900} 0}] []] 0", two(impl.ReadRack("20:2099@2000 1:1900@0\n\n")))
}

func TestReadRackFull(t *testing.T) {
	line := strings.TrimSuffix(strings.Repeat("20:2099@2000 ", 6), " ") + "\n"
	r, code := impl.ReadRack(strings.Repeat(line, 8))
	is(t, "8 lanes of 6", "8 48 0 0", len(r), two(impl.StoredIn(r)), code)
	is(t, "its text", strings.Repeat(line, 8), impl.RackText(r))
	is(t, "9 lanes", "[] 5", two(impl.ReadRack(strings.Repeat(line, 9))))
	is(t, "9 empty lanes", "[] 5", two(impl.ReadRack(strings.Repeat("\n", 9))))
	is(t, "7 in a lane", "[] 5", two(impl.ReadRack("1:2001@5 "+line)))
	is(t, "7 in the last lane", "[] 5", two(impl.ReadRack("\n\n"+"1:2001@5 "+line)))
}

func TestReadRackNearlyRight(t *testing.T) {
	texts := []string{
		" ", "x", "\t", "\r\n", " \n", "\n ", "1:2001@5", "1:2001@5\n1:2001@5", "\n1:2001@5", "1:2001@5\r\n", "1:2001@5\r",
		"1:2001@5 \n", " 1:2001@5\n", "1:2001@5  1:2001@5\n", "1:2001@5\t1:2001@5\n", "1:2001@5\u00a01:2001@5\n", "1:2001@5,1:2001@5\n",
		"1:2001@5\x00\n", "1:2001@5\v\n", "1:2001@5\u0085", "1:2001@5\u2028", "1:2001@5\n\n ", "1:2001@5\n-\n", "-\n",
		"1:2001\n", "1:2001@\n", "@5\n", "@\n", "1:2001 @5\n", "1:2001@ 5\n", "1:2001@@5\n", "1:2001@5@\n", "1:2001@5@5\n", "1:2001:5\n",
		"1:2001x5\n", "1@2001:5\n", "1:2001@-1\n", "1:2001@-0\n", "1:2001@+5\n", "1:2001@05\n", "1:2001@00\n", "1:2001@2001\n",
		"1:2001@32768\n", "1:2001@65541\n", "1:2001@18446744073709551621\n", "1:2001@5.0\n", "1:2001@5e0\n", "1:2001@0x5\n", "1:2001@1_0\n",
		"1:2001@٥\n", "1:2001@a\n", "01:2001@5\n", "+1:2001@5\n", "1:02001@5\n", "0:2001@5\n", "21:2001@5\n", "257:2001@5\n",
		"1:1899@5\n", "1:2100@5\n", "1:67537@5\n", "1:-2001@5\n", ":2001@5\n", "1:@5\n", "0:0@0\n", "0:0@5\n",
		"1:2001@5 2:2001\n", "1:2001@5\n2:2001@2001\n", "2:2001@2001\n1:2001@5\n", "1:2001@5/\n",
		strings.Repeat("\n", 900000), strings.Repeat(" ", 900000), strings.Repeat("1:2001@5 ", 100000) + "\n",
		strings.Repeat("1:2001@5\n", 100000), "1:2001@" + strings.Repeat("0", 900000) + "5\n", strings.Repeat("@", 900000),
	}
	for _, text := range texts {
		if got := two(impl.ReadRack(text)); got != "[] 5" {
			t.Errorf("%.40q is read as %s", text, got)
		}
	}
}
