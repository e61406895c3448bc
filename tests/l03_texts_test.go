package tests

import (
	"slices"
	"strings"
	"testing"

	"loop.example/g01353/impl"
)

func TestSwapTexts(t *testing.T) {
	var all []impl.Swap
	for from := range int8(impl.Places) {
		for to := range int8(impl.Places) {
			all = append(all, swap(from, to))
		}
	}
	for i := range all {
		list := all[i:min(len(all), i+i%61)]
		var words []string
		for _, s := range list {
			words = append(words, show(s.From)+"-"+show(s.To))
		}
		is(t, "text", strings.Join(words, " "), impl.SwapsText(list))
		read, code := impl.ReadSwaps(strings.Join(words, " "))
		is(t, "read", show(list, 0), read, code)
	}
	is(t, "none", "", impl.SwapsText(nil))
	is(t, "the empty text", "[] 0", two(impl.ReadSwaps("")))
	is(t, "a place with itself", "[{11 11} {0 0}] 0", two(impl.ReadSwaps("11-11 0-0")))
	is(t, "as they are told", "[{5 2} {5 2}] 0", two(impl.ReadSwaps("5-2 5-2")))
}

func TestNoSwapTexts(t *testing.T) {
	sixty := slices.Repeat([]impl.Swap{swap(10, 11)}, 60)
	is(t, "60", strings.TrimSuffix(strings.Repeat("10-11 ", 60), " "), impl.SwapsText(sixty))
	is(t, "61", "", impl.SwapsText(append(sixty, swap(0, 1))))
	is(t, "many", "", impl.SwapsText(slices.Repeat(sixty, 8000)))
	for _, s := range invalidSwaps() {
		is(t, "no place", "", impl.SwapsText([]impl.Swap{s}))
		is(t, "no place behind", "", impl.SwapsText([]impl.Swap{swap(0, 1), s}))
	}
}

func TestReadSwapsNearlyRight(t *testing.T) {
	sixty := strings.TrimSuffix(strings.Repeat("0-1 ", 60), " ")
	list, code := impl.ReadSwaps(sixty)
	is(t, "60", "60 0", len(list), code)
	texts := []string{
		" ", "\n", "-", "x", "0", "0-", "-1", "0 1", "0 -1", "0- 1", "0 - 1", "0--1", "0-1-", "-0-1", "0-1-2", "0-1 2",
		"12-0", "0-12", "-1-0", "0-127", "0-128", "0-256", "256-0", "0-257", "0-18446744073709551617", "+0-1", "0-+1",
		"00-1", "0-01", "0-1 ", " 0-1", "0-1\n", "\n0-1", "0-1\x00", "0-1  1-2", "0-1\t1-2", "0-1\n1-2", "0-1\u00a01-2",
		"0-1,1-2", "0-1, 1-2", "0-11-2", "0–1", "0−1", "0:1", "0x1", "0-0x1", "0-1_0", "0-1e0", "0-1.0", "0-١", "a-b",
		"0-1 -", "0-1 1-12", "0-1 12-1", sixty + " 0-1", sixty + " ",
		strings.Repeat("0-1 ", 250000), strings.Repeat(" ", 900000), strings.Repeat("-", 900000),
		"0-" + strings.Repeat("0", 900000) + "1", strings.Repeat("1", 900000),
	}
	for _, text := range texts {
		if got := two(impl.ReadSwaps(text)); got != "[] 5" {
			t.Errorf("%.40q is read as %s", text, got)
		}
	}
}
