package tests

import (
	"fmt"
	"math"
	"slices"
	"strings"
	"testing"

	"loop.example/g01353/impl"
)

func TestMarksTexts(t *testing.T) {
	for _, one := range sampleTastings() {
		text := ""
		for _, marks := range one.m {
			text += strings.Trim(fmt.Sprint(marks), "[]") + "\n"
		}
		is(t, show(one), text, impl.MarksText(one.samples, one.m))
		read, code := impl.ReadMarks(one.samples, text)
		is(t, "read", show(one.m, 0), read, code)
		is(t, "same", "true true", impl.SameMarks(one.m, read), impl.ValidMarks(one.samples, read))
		if len(one.m) > 0 {
			is(t, "for other samples", "[] 5 [] 5", two(impl.ReadMarks(one.samples+1, text)), two(impl.ReadMarks(one.samples-1, text)))
		}
	}
	is(t, "the example's", "9 5 5\n3 7 5\n", impl.MarksText(3, tastingExample().m))
	is(t, "one sample", "[[0] [20]] 0", two(impl.ReadMarks(1, "0\n20\n")))
	is(t, "no tasters", "", impl.MarksText(3, nil))
	for samples := int64(1); samples <= impl.MaxSamples; samples++ {
		is(t, "the empty text", "[] 0", two(impl.ReadMarks(samples, "")))
	}
	line := "0 20 1 19 2 18 10 9\n"
	m, code := impl.ReadMarks(8, strings.Repeat(line, 12))
	is(t, "12", "12 0", len(m), code)
	is(t, "their text", strings.Repeat(line, 12), impl.MarksText(8, m))
	is(t, "13", "[] 5", two(impl.ReadMarks(8, strings.Repeat(line, 13))))
	is(t, "9 samples", "[] 5", two(impl.ReadMarks(9, "0 1 2 3 4 5 6 7 8\n")))
}

func TestMarksTextInvalid(t *testing.T) {
	for _, one := range invalidTastings() {
		is(t, "no text", "", impl.MarksText(one.samples, one.m))
	}
	for _, samples := range noSamples() {
		for _, text := range []string{"", "\n", "9 5 5\n3 7 5\n", "0\n", "0 1 2 3 4 5 6 7 8\n", "x"} {
			is(t, show(samples, text), "[] 5", two(impl.ReadMarks(samples, text)))
		}
	}
	for _, mark := range []int64{-1, 21, 256, 1 << 32, math.MinInt64, math.MaxInt64} {
		is(t, "no mark", "[] 5", two(impl.ReadMarks(3, fmt.Sprintf("1 2 3\n1 %d 3\n", mark))))
	}
}

func TestReadMarksNearlyRight(t *testing.T) {
	texts := []string{
		" ", "\n", "\n\n", "x", "\t", "\r\n", "\x00", "9 5 5", "9 5 5\n3 7 5", "9 5 5\n\n", "\n9 5 5\n", "9 5 5\n\n3 7 5\n", "9 5 5\n \n",
		"9 5 5 \n", " 9 5 5\n", "9  5 5\n", "9 5  5\n", "9\t5 5\n", "9 5\v5\n", "9 5\f5\n", "9 5\u00a05\n", "9 5\u20285\n", "9 5 5\r\n", "9 5 5\x00\n", "9 5 5\u0085",
		"9 5\n5\n", "9\n5\n5\n", "9 5 5 3 7 5\n", "9 5 5;3 7 5\n", "9, 5, 5\n", "9,5,5\n", "9-5-5\n", "[9 5 5]\n", "955\n",
		"9 5\n", "9 5 5 5\n", "9 5 5\n3 7\n", "9 5 5\n3 7 5 5\n", "9 5\n3 7 5\n", "9 5 5\n3 7 5\n\n",
		"-1 5 5\n", "-0 5 5\n", "+9 5 5\n", "9 05 5\n", "9 5 00\n", "09 5 5\n", "9 5 21\n", "21 5 5\n", "9 100 5\n", "9 265 5\n",
		"9 5 4294967301\n", "9 5 18446744073709551621\n", "9 5 9223372036854775808\n", "9 5 -9223372036854775808\n",
		"9.0 5 5\n", "9e0 5 5\n", "0x9 5 5\n", "0b1 5 5\n", "1_0 5 5\n", "a 5 5\n", "９ 5 5\n", "٩ 5 5\n", "nine 5 5\n", "9 - 5\n", "9 5 5x\n", "x9 5 5\n",
		strings.Repeat("\n", 900000), strings.Repeat(" ", 900000), strings.Repeat("9 ", 450000) + "\n", strings.Repeat("9 5 5\n", 150000),
		strings.Repeat("0", 900000) + "9 5 5\n", "9 5 " + strings.Repeat("9", 900000) + "\n", strings.Repeat("9 5 5 ", 150000), "9 5 5\n" + strings.Repeat(" ", 900000),
	}
	for _, text := range texts {
		if got := two(impl.ReadMarks(3, text)); got != "[] 5" {
			t.Errorf("%.40q is read as %s", text, got)
		}
	}
	// Each text with one byte less or another one is either read exactly, or not at all.
	fine := "9 5 15\n3 20 0\n"
	for i := range fine {
		for _, other := range []string{"", "0", "1", "2", " ", "\n", "-", "+", "e", "\x00", "\xff", " 1", "1 "} {
			text := fine[:i] + other + fine[i+1:]
			m, code := impl.ReadMarks(3, text)
			if code == impl.OK {
				is(t, "read", text, impl.MarksText(3, m))
				continue
			}
			is(t, "not read", "[] 5", m, code)
		}
	}
}

func TestReadMarksIsNew(t *testing.T) {
	m, _ := impl.ReadMarks(3, "9 5 5\n3 7 5\n")
	clear(m[0][:cap(m[0])])
	is(t, "other tasters", "[3 7 5]", m[1])
	m = slices.Insert(m, 1, []int64{1, 1, 1})
	is(t, "again", "[[9 5 5] [3 7 5]] 0", two(impl.ReadMarks(3, "9 5 5\n3 7 5\n")))
}
