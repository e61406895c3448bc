package tests

import (
	"slices"
	"sync"
	"testing"

	"loop.example/g01353/impl"
)

// tastingCall is a call of a function of chapter 7 that gets marks, and what it
// returns if they are not valid.
type tastingCall struct {
	name    string
	invalid string
	run     func(one tasting) string
}

func marksCalls() []tastingCall {
	return []tastingCall{
		{"ValidMarks", "false", func(one tasting) string { return show(impl.ValidMarks(one.samples, one.m)) }},
		{"PairsFor", "[] 1", func(one tasting) string { return two(impl.PairsFor(one.samples, one.m)) }},
		{"RanksOf", "[] 1", func(one tasting) string { return two(impl.RanksOf(one.samples, one.m)) }},
		{"RankSums", "[] 1", func(one tasting) string { return two(impl.RankSums(one.samples, one.m)) }},
		{"SumOrder", "[] 1", func(one tasting) string { return two(impl.SumOrder(one.samples, one.m)) }},
		{"AgreementOf", "0 1", func(one tasting) string {
			return two(impl.AgreementOf(one.samples, one.m, reversed(risingTo(min(one.samples, 9)))))
		}},
		{"AgreementOf no order", "0 1", func(one tasting) string { return two(impl.AgreementOf(one.samples, one.m, []int64{-1})) }},
		{"BestOrder", "[] 0 1", func(one tasting) string { return three(impl.BestOrder(one.samples, one.m)) }},
		{"AgreementBound", "0 1", func(one tasting) string { return two(impl.AgreementBound(one.samples, one.m)) }},
		{"WinnerOf", "0 1", func(one tasting) string { return two(impl.WinnerOf(one.samples, one.m)) }},
		{"SpreadOf", "0 1", func(one tasting) string { return two(impl.SpreadOf(one.samples, one.m)) }},
		{"StrangeTaster", "0 0 1", func(one tasting) string { return three(impl.StrangeTaster(one.samples, one.m)) }},
		{"WithoutTaster", "[] 1", func(one tasting) string { return two(impl.WithoutTaster(one.samples, one.m, 0)) }},
		{"WithoutTaster none", "[] 1", func(one tasting) string { return two(impl.WithoutTaster(one.samples, one.m, 12)) }},
		{"MarksText", "", func(one tasting) string { return impl.MarksText(one.samples, one.m) }},
	}
}

// P1: ErrInvalid comes first, and all other results are zero values then.
func TestInvalidMarks(t *testing.T) {
	for _, call := range marksCalls() {
		for _, one := range invalidTastings() {
			is(t, call.name, call.invalid, call.run(one))
		}
	}
}

// closeTasting returns the same marks, one list behind the other, with something
// else as unused capacity.
func closeTasting(one tasting) (near tasting, array []int64) {
	for _, marks := range one.m {
		array = append(array, marks...)
	}
	array = append(array, -7, 99, 5)
	m := make(impl.Marks, 0, len(one.m)+2)
	for i := range one.m {
		begin := i * int(one.samples)
		m = append(m, array[begin:begin+int(one.samples)])
	}
	return tasting{one.samples, m}, array
}

// P1: arguments are not modified, nor is the unused capacity of a slice, and
// results are equal for equal arguments.
func TestMarksAreKept(t *testing.T) {
	for _, one := range sampleTastings() {
		near, array := closeTasting(one)
		before := slices.Clone(array)
		spare := near.m[len(near.m):cap(near.m)]
		for _, call := range marksCalls() {
			is(t, call.name, call.run(one), call.run(near))
			is(t, call.name+" again", call.run(one), call.run(near))
		}
		impl.SameMarks(near.m, one.m)
		if !slices.Equal(before, array) || !impl.SameMarks(near.m, one.m) || !impl.SameMarks(spare, make(impl.Marks, len(spare))) {
			t.Errorf("%v is modified", one)
		}
	}
}

func TestNilMarks(t *testing.T) {
	for _, call := range marksCalls() {
		for samples := int64(-1); samples <= impl.MaxSamples+1; samples++ {
			is(t, call.name, call.run(tasting{samples, nil}), call.run(tasting{samples, impl.Marks{}}))
			is(t, call.name+" without marks", call.run(tasting{samples, impl.Marks{nil}}), call.run(tasting{samples, impl.Marks{{}}}))
		}
	}
	is(t, "orders", show(two(impl.FollowsOf(2, nil)), two(impl.IsBalanced(2, nil))), two(impl.FollowsOf(2, [][]int64{})), two(impl.IsBalanced(2, [][]int64{})))
	is(t, "no order", show(two(impl.FollowsOf(2, [][]int64{nil})), two(impl.DiscordOf(2, nil, nil))), two(impl.FollowsOf(2, [][]int64{{}})), two(impl.DiscordOf(2, []int64{}, []int64{})))
	is(t, "lists", "false false 0 4 0 4", impl.IsOrder(1, nil), impl.IsOrder(1, []int64{}), two(impl.AgreementOf(1, nil, nil)), two(impl.AgreementOf(1, nil, []int64{})))
	one := []impl.Bottle{bottle(1, 2000)}
	is(t, "nothing to reveal", "[] 0 [] 0", two(impl.RevealOrder([]int64{7}, nil, one)), two(impl.RevealOrder([]int64{7}, []int64{}, one)))
	is(t, "nothing", "[] 2 [] 2", two(impl.RevealOrder(nil, nil, nil)), two(impl.RevealOrder([]int64{}, []int64{}, []impl.Bottle{})))
}

func TestServingsAreKept(t *testing.T) {
	next := numberMaker(67)
	for round := range 200 {
		samples := int64(1 + round%impl.MaxSamples)
		a, b := append(randomServing(next, samples), 7, -9), append(randomServing(next, samples), 0, 99)
		orders := append([][]int64{a[:samples], b[:samples]}, []int64{5}, nil)
		m := impl.Marks{randomMarks(next, samples, 20)}
		before := show(a, b, orders, m)
		for range 2 {
			impl.IsOrder(samples, a[:samples])
			impl.FollowsOf(samples, orders[:2])
			impl.IsBalanced(samples, orders[:2])
			impl.FollowsOf(samples, orders)
			impl.AgreementOf(samples, m, a[:samples])
			impl.DiscordOf(samples, a[:samples], b[:samples])
			is(t, "kept", before, show(a, b, orders, m))
		}
	}
}

func TestRevealedAreKept(t *testing.T) {
	numbers, order := []int64{150, 157, 164, 7}, []int64{164, 150, 164, 150, 9}
	bottles := append(sampleFlight(3), impl.Bottle{}, bottle(1, 1900))
	before := show(numbers, order, bottles)
	is(t, "revealed", show([]impl.Bottle{bottles[2], bottles[0], bottles[2], bottles[0]}, 0), two(impl.RevealOrder(numbers[:3], order[:4], bottles[:3])))
	impl.RevealOrder(numbers[:3], order, bottles[:3])
	is(t, "kept", before, show(numbers, order, bottles))
	spoil(t, "RevealOrder", func() []impl.Bottle { r, _ := impl.RevealOrder(numbers[:3], order[:4], bottles[:3]); return r })
	is(t, "kept again", before, show(numbers, order, bottles))
}

// spoilLists overwrites each list of a result, and what is behind it, and looks
// whether another one or the next result changes.
func spoilLists[L ~[][]int64](t *testing.T, name string, run func() L) {
	t.Helper()
	spoil(t, name, func() [][]int64 { return run() })
	want := show(run())
	for i := range run() {
		result, rest := run(), run()
		spare := result[i][:cap(result[i])]
		for j := range spare {
			spare[j] = -5
		}
		is(t, name+" other lists", show(slices.Delete(rest, i, i+1)), slices.Delete(result, i, i+1))
		is(t, name+" again", want, run())
	}
}

// P1: a list that has been returned shares no memory with an argument or another one.
func TestTastingResultsAreNew(t *testing.T) {
	for i, one := range sampleTastings() {
		near, array := closeTasting(one)
		before := slices.Clone(array)
		samples := one.samples
		spoilLists(t, "PairsFor", func() [][]int64 { r, _ := impl.PairsFor(samples, near.m); return r })
		spoilLists(t, "RanksOf", func() [][]int64 { r, _ := impl.RanksOf(samples, near.m); return r })
		spoil(t, "RankSums", func() []int64 { r, _ := impl.RankSums(samples, near.m); return r })
		spoil(t, "SumOrder", func() []int64 { r, _ := impl.SumOrder(samples, near.m); return r })
		spoil(t, "BestOrder", func() []int64 { r, _, _ := impl.BestOrder(samples, near.m); return r })
		spoilLists(t, "WithoutTaster", func() impl.Marks { r, _ := impl.WithoutTaster(samples, near.m, 0); return r })
		spoilLists(t, "WithoutTaster behind", func() impl.Marks { r, _ := impl.WithoutTaster(samples, near.m, int64(len(one.m))-1); return r })
		spoilLists(t, "ReadMarks", func() impl.Marks { r, _ := impl.ReadMarks(samples, impl.MarksText(samples, near.m)); return r })
		if i < impl.MaxSamples {
			number := int64(i + 1)
			orders, _ := impl.FollowOrders(number)
			all := show(orders)
			spoilLists(t, "FollowOrders", func() [][]int64 { r, _ := impl.FollowOrders(number); return r })
			spoilLists(t, "FollowsOf", func() [][]int64 { r, _ := impl.FollowsOf(number, orders); return r })
			spoil(t, "BlindNumbers", func() []int64 { r, _ := impl.BlindNumbers(number, 7, 50); return r })
			is(t, "orders", all, orders)
		}
		if !slices.Equal(before, array) || !impl.SameMarks(near.m, one.m) {
			t.Errorf("%v is given out", one)
		}
	}
}

// P1: results are the same while others call as well.
func TestTastingsAtTheSameTime(t *testing.T) {
	samples := sampleTastings()[:120]
	var calls sync.WaitGroup
	for _, one := range samples {
		var want []string
		for _, call := range marksCalls() {
			want = append(want, call.run(one))
		}
		calls.Go(func() {
			for i, call := range marksCalls() {
				if got := call.run(one); got != want[i] {
					t.Errorf("%s: got %s, want %s", call.name, got, want[i])
				}
			}
		})
	}
	calls.Wait()
}
