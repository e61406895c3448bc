package tests

import (
	"strings"
	"testing"

	"loop.example/g01353/impl"
)

func TestBottleTexts(t *testing.T) {
	for kind := range 23 {
		for year := int16(1890); year < 2110; year++ {
			b := bottle(uint8(kind), year)
			text := impl.BottleText(b)
			if !impl.ValidBottle(b) {
				is(t, "no text", "", text)
				_, code := impl.ReadBottle(show(kind) + ":" + show(year))
				is(t, "not read", show(impl.ErrSyntax), code)
				continue
			}
			is(t, "text", show(kind)+":"+show(year), text)
			read, code := impl.ReadBottle(text)
			is(t, "read", show(b, 0), read, code)
		}
	}
	is(t, "nothing", "", impl.BottleText(impl.Bottle{}))
}

func TestReadBottleNearlyRight(t *testing.T) {
	texts := []string{
		"", ":", "1", "1:", ":1999", "1999", "-", "1 1999", "1;1999", "1:1999:", "1:1999:1", ":1:1999",
		"01:1999", "1:01999", "00:1999", "+1:1999", "1:+1999", "-1:1999", "1:-1999", "1: 1999", " 1:1999",
		"1:1999 ", "1:1999\n", "\n1:1999", "1:1999\x00", "0:1999", "21:1999", "1:1899", "1:2100", "0:0",
		"257:1999", "1:67535", "256:1999", "1_0:1999", "1:1_999", "0x1:1999", "1:1999.0", "1:1e3", "١:1999",
		"1:１９９９", "18446744073709551617:1999", "1:18446744073709553615", "1:9223372036854775807", "one:1999",
		strings.Repeat("0", 1000) + "1:1999", strings.Repeat("1:", 500000),
	}
	for _, text := range texts {
		b, code := impl.ReadBottle(text)
		is(t, "syntax", show(impl.Bottle{}, impl.ErrSyntax), b, code)
	}
}

func TestCrateTexts(t *testing.T) {
	is(t, "empty", "- - - -\n- - - -\n- - - -\n", impl.CrateText(impl.Crate{}))
	is(t, "example", exampleText, impl.CrateText(exampleCrate()))
	row := strings.Repeat("20:2099 ", 3) + "20:2099\n"
	is(t, "full", row+row+row, impl.CrateText(fullOf(bottle(20, 2099))))
	for _, c := range sampleCrates() {
		read, code := impl.ReadCrate(impl.CrateText(c))
		is(t, "read", show(c, 0), read, code)
	}
	for _, c := range invalidCrates() {
		is(t, "no text", "", impl.CrateText(c))
	}
}

func TestReadCrateNearlyRight(t *testing.T) {
	texts := []string{
		"", "\n", "\n\n\n", "- - - -", "- - - -\n- - - -\n", "- - - -\n- - - -\n- - - -",
		exampleText + "\n", "\n" + exampleText, " " + exampleText, exampleText + " ", exampleText + "- - - -\n",
		exampleText + exampleText, exampleText + "\x00", strings.TrimSuffix(exampleText, "\n"),
		strings.Replace(exampleText, " ", "  ", 1), strings.Replace(exampleText, " ", "\t", 1),
		strings.Replace(exampleText, " ", "\u00a0", 1), strings.Replace(exampleText, "\n", " \n", 1),
		strings.Replace(exampleText, "\n", "\r\n", 1), strings.ReplaceAll(exampleText, "\n", "\r\n"),
		strings.Replace(exampleText, "\n", " ", 1), strings.Replace(exampleText, " ", "\n", 1),
		strings.Replace(exampleText, "\n", "\n\n", 1), strings.Replace(exampleText, "-", "", 1),
		strings.Replace(exampleText, "-", "--", 1), strings.Replace(exampleText, "-", "0:0", 1),
		strings.Replace(exampleText, "-", "–", 1), strings.Replace(exampleText, "-", "- -", 1),
		strings.Replace(exampleText, "3:1999", "03:1999", 1), strings.Replace(exampleText, "3:1999", "+3:1999", 1),
		strings.Replace(exampleText, "3:1999", "21:1999", 1), strings.Replace(exampleText, "3:1999", "3:1899", 1),
		strings.Replace(exampleText, "3:1999", "0:1999", 1), strings.Replace(exampleText, "3:1999", "3", 1),
		"- - -\n- - - - -\n- - - -\n", "- - - - - - - - - - - -\n", "- - -\n- - -\n- - -\n- - -\n",
		strings.Repeat("- ", 500000), strings.Repeat("- - - -\n", 125000),
	}
	for _, text := range texts {
		c, code := impl.ReadCrate(text)
		is(t, "syntax", show(impl.Crate{}, impl.ErrSyntax), c, code)
	}
}
