package impl

import (
	"cmp"
	"errors"
	"iter"
	"slices"
	"strconv"
	"strings"
)

// Error codes.
const (
	OK          = 0
	ErrInvalid  = 1
	ErrRange    = 2
	ErrLimit    = 3
	ErrState    = 4
	ErrSyntax   = 5
	ErrNotFound = 6
	ErrBudget   = 7
	ErrProof    = 8
)

// Limits of bottles and crates.
const (
	Places    = 12
	MaxKind   = 20
	FirstYear = 1900
	LastYear  = 2099
	MaxStack  = 12
)

// Bottle is a bottle of a kind and a year.
type Bottle struct {
	Kind uint8
	Year int16
}

// Crate has places for bottles.
type Crate [12]Bottle

// Count tells how many bottles there are of one.
type Count struct {
	Bottle Bottle
	Number int64
}

// What FewestCrates and GrossOf count with.
const (
	mostBottles = 1000000
	dozen       = 12
	gross       = 12 * dozen
)

// The places of a crate stand in rows of so many.
const rowLong = 4

var (
	errInvalid  = errors.New("invalid")
	errRange    = errors.New("range")
	errLimit    = errors.New("limit")
	errState    = errors.New("state")
	errSyntax   = errors.New("syntax")
	errNotFound = errors.New("notfound")
	errProof    = errors.New("proof")
)

// codeOf returns the code that tells an error outside the package.
func codeOf(err error) int64 {
	switch {
	case err == nil:
		return OK
	case errors.Is(err, errRange):
		return ErrRange
	case errors.Is(err, errLimit):
		return ErrLimit
	case errors.Is(err, errState):
		return ErrState
	case errors.Is(err, errSyntax):
		return ErrSyntax
	case errors.Is(err, errNotFound):
		return ErrNotFound
	case errors.Is(err, errProof):
		return ErrProof
	}
	return ErrInvalid
}

// CodeName returns the name of an error code.
func CodeName(code int64) string {
	names := [...]string{
		OK:          "ok",
		ErrInvalid:  "invalid",
		ErrRange:    "range",
		ErrLimit:    "limit",
		ErrState:    "state",
		ErrSyntax:   "syntax",
		ErrNotFound: "notfound",
		ErrBudget:   "budget",
		ErrProof:    "proof",
	}
	if code < 0 || code >= int64(len(names)) {
		return ""
	}
	return names[code]
}

// ValidBottle reports whether b is valid.
func ValidBottle(b Bottle) bool {
	return b.Kind >= 1 && b.Kind <= MaxKind && b.Year >= FirstYear && b.Year <= LastYear
}

// ValidCrate reports whether c is valid.
func ValidCrate(c Crate) bool {
	for place := range placesWith(c, isBottle) {
		if !ValidBottle(c[place]) {
			return false
		}
	}
	return true
}

// ValidStack reports whether crates are valid.
func ValidStack(list []Crate) bool {
	if len(list) > MaxStack {
		return false
	}
	for _, c := range list {
		if !ValidCrate(c) {
			return false
		}
	}
	return true
}

func checkBottle(b Bottle) error {
	if !ValidBottle(b) {
		return errInvalid
	}
	return nil
}

func checkCrates(crates ...Crate) error {
	for _, c := range crates {
		if !ValidCrate(c) {
			return errInvalid
		}
	}
	return nil
}

func checkStack(list []Crate) error {
	if !ValidStack(list) {
		return errInvalid
	}
	return nil
}

func checkPlace(place int64) error {
	if place < 0 || place >= Places {
		return errRange
	}
	return nil
}

func checkAmount(bottles int64) error {
	if bottles < 0 || bottles > mostBottles {
		return errRange
	}
	return nil
}

// firstError returns the first of several checks that failed.
func firstError(checks ...error) error {
	for _, err := range checks {
		if err != nil {
			return err
		}
	}
	return nil
}

// SameStack reports whether two lists are deeply equal.
func SameStack(a, b []Crate) bool { return slices.Equal(a, b) }

// CompareBottles compares two bottles.
func CompareBottles(a, b Bottle) int64 {
	return int64(cmp.Or(cmp.Compare(a.Kind, b.Kind), cmp.Compare(a.Year, b.Year)))
}

func compareCounts(a, b Count) int64 { return CompareBottles(a.Bottle, b.Bottle) }

// ordered returns a new list, in which equal elements stand as before.
func ordered[T any](list []T, order func(a, b T) int64) []T {
	result := slices.Clone(list)
	slices.SortStableFunc(result, func(a, b T) int { return int(order(a, b)) })
	return result
}

// isBottle holds for invalid bottles too: only Kind 0 and Year 0 is nothing.
func isBottle(b Bottle) bool { return b != Bottle{} }

func isFree(b Bottle) bool { return b == Bottle{} }

// placesWith ranges, ascending, over the places of a crate whose content fits.
func placesWith(c Crate, fits func(b Bottle) bool) iter.Seq[int64] {
	return func(yield func(place int64) bool) {
		for place, b := range c {
			if fits(b) && !yield(int64(place)) {
				return
			}
		}
	}
}

func firstPlace(c Crate, fits func(b Bottle) bool) (int64, error) {
	for place := range placesWith(c, fits) {
		return place, nil
	}
	return 0, errNotFound
}

func bottlesOf(c Crate) []Bottle {
	var list []Bottle
	for place := range placesWith(c, isBottle) {
		list = append(list, c[place])
	}
	return list
}

// FreePlaces returns all places without a bottle.
func FreePlaces(c Crate) ([]int64, int64) {
	if err := checkCrates(c); err != nil {
		return nil, codeOf(err)
	}
	return slices.Collect(placesWith(c, isFree)), OK
}

// BottlesIn returns all bottles of a crate.
func BottlesIn(c Crate) ([]Bottle, int64) {
	if err := checkCrates(c); err != nil {
		return nil, codeOf(err)
	}
	return bottlesOf(c), OK
}

// PutBottle puts a bottle into a place.
func PutBottle(c Crate, place int64, b Bottle) (Crate, int64) {
	if err := firstError(checkCrates(c), checkBottle(b), checkPlace(place)); err != nil {
		return Crate{}, codeOf(err)
	}
	if isBottle(c[place]) {
		return Crate{}, codeOf(errState)
	}
	c[place] = b
	return c, OK
}

// TakeBottle takes the bottle out of a place.
func TakeBottle(c Crate, place int64) (Crate, Bottle, int64) {
	if err := firstError(checkCrates(c), checkPlace(place)); err != nil {
		return Crate{}, Bottle{}, codeOf(err)
	}
	taken := c[place]
	if isFree(taken) {
		return Crate{}, Bottle{}, codeOf(errNotFound)
	}
	c[place] = Bottle{}
	return c, taken, OK
}

// AddBottle puts a bottle into the first free place.
func AddBottle(c Crate, b Bottle) (Crate, int64, int64) {
	if err := firstError(checkCrates(c), checkBottle(b)); err != nil {
		return Crate{}, 0, codeOf(err)
	}
	place, err := firstPlace(c, isFree)
	if err != nil {
		return Crate{}, 0, codeOf(errLimit)
	}
	c[place] = b
	return c, place, OK
}

// PlaceOf returns the first place with a bottle.
func PlaceOf(c Crate, b Bottle) (int64, int64) {
	if err := firstError(checkCrates(c), checkBottle(b)); err != nil {
		return 0, codeOf(err)
	}
	place, err := firstPlace(c, func(other Bottle) bool { return other == b })
	return place, codeOf(err)
}

// IsPure reports whether all bottles are alike.
func IsPure(c Crate) (bool, int64) {
	if err := checkCrates(c); err != nil {
		return false, codeOf(err)
	}
	return len(countBottles([]Crate{c})) <= 1, OK
}

// SortCrate puts all bottles into order.
func SortCrate(c Crate) (Crate, int64) {
	if err := checkCrates(c); err != nil {
		return Crate{}, codeOf(err)
	}
	var sorted Crate
	copy(sorted[:], ordered(bottlesOf(c), CompareBottles))
	return sorted, OK
}

// TurnCrate turns a crate by half a turn.
func TurnCrate(c Crate) (Crate, int64) {
	if err := checkCrates(c); err != nil {
		return Crate{}, codeOf(err)
	}
	slices.Reverse(c[:])
	return c, OK
}

// tipAt returns which way a crate with bottles in some places hangs.
func tipAt(places iter.Seq[int64]) (int64, int64) {
	var east, south int64
	for place := range places {
		east += 2*(place%rowLong) - 3
		south += place/rowLong - 1
	}
	return east, south
}

// TipOf returns which way a crate hangs.
func TipOf(c Crate) (int64, int64, int64) {
	if err := checkCrates(c); err != nil {
		return 0, 0, codeOf(err)
	}
	east, south := tipAt(placesWith(c, isBottle))
	return east, south, OK
}

func sizeOf(number int64) int64 { return max(number, -number) }

// choices ranges over all ascending lists of so many numbers less than below,
// in the order of lists. Each list is overwritten by the next one.
func choices(below, size int) iter.Seq[[]int64] {
	return func(yield func(list []int64) bool) {
		list := make([]int64, size)
		for i := range list {
			list[i] = int64(i)
		}
		for yield(list) {
			last := size - 1
			for last >= 0 && list[last] == int64(below-size+last) {
				last--
			}
			if last < 0 {
				return
			}
			list[last]++
			for i := last + 1; i < size; i++ {
				list[i] = list[i-1] + 1
			}
		}
	}
}

// levelPlaces returns the places in which so many bottles tip least.
func levelPlaces(bottles int) []int64 {
	var best []int64
	var least int64
	for list := range choices(Places, bottles) {
		east, south := tipAt(slices.Values(list))
		tip := sizeOf(east) + sizeOf(south)
		// Lists come in their order, so a later one that tips as much comes behind.
		if best == nil || tip < least {
			best, least = slices.Clone(list), tip
		}
	}
	return best
}

// LevelCrate moves bottles so that the crate tips least.
func LevelCrate(c Crate) (Crate, int64) {
	if err := checkCrates(c); err != nil {
		return Crate{}, codeOf(err)
	}
	var level Crate
	bottles := bottlesOf(c)
	for i, place := range levelPlaces(len(bottles)) {
		level[place] = bottles[i]
	}
	return level, OK
}

// FillFrom moves bottles from b into a.
func FillFrom(a, b Crate) (Crate, Crate, int64) {
	if err := checkCrates(a, b); err != nil {
		return Crate{}, Crate{}, codeOf(err)
	}
	for from := range placesWith(b, isBottle) {
		to, err := firstPlace(a, isFree)
		if err != nil {
			break
		}
		a[to], b[from] = b[from], Bottle{}
	}
	return a, b, OK
}

// countBottles looks through crates that are alike only once.
func countBottles(list []Crate) map[Bottle]int64 {
	times := map[Crate]int64{}
	for _, c := range list {
		times[c]++
	}
	counts := map[Bottle]int64{}
	for c, n := range times {
		for _, b := range bottlesOf(c) {
			counts[b] += n
		}
	}
	return counts
}

// CountsIn returns how many bottles there are of each.
func CountsIn(list []Crate) ([]Count, int64) {
	if err := checkStack(list); err != nil {
		return nil, codeOf(err)
	}
	var counts []Count
	for b, n := range countBottles(list) {
		counts = append(counts, Count{Bottle: b, Number: n})
	}
	return ordered(counts, compareCounts), OK
}

// CountOf returns how many bottles there are of one.
func CountOf(list []Crate, b Bottle) (int64, int64) {
	if err := firstError(checkStack(list), checkBottle(b)); err != nil {
		return 0, codeOf(err)
	}
	return countBottles(list)[b], OK
}

// packed puts bottles into the places from 0 on, crate by crate.
func packed(bottles []Bottle) []Crate {
	var list []Crate
	for some := range slices.Chunk(bottles, Places) {
		var c Crate
		copy(c[:], some)
		list = append(list, c)
	}
	return list
}

// PackStack puts all bottles into as few crates as can be.
func PackStack(list []Crate) ([]Crate, int64) {
	if err := checkStack(list); err != nil {
		return nil, codeOf(err)
	}
	var bottles []Bottle
	for _, c := range list {
		bottles = append(bottles, bottlesOf(c)...)
	}
	return packed(ordered(bottles, CompareBottles)), OK
}

// FewestCrates returns how many crates bottles need.
func FewestCrates(bottles int64) (int64, int64) {
	if err := checkAmount(bottles); err != nil {
		return 0, codeOf(err)
	}
	return (bottles + Places - 1) / Places, OK
}

// GrossOf returns grosses, dozens and single bottles.
func GrossOf(bottles int64) (int64, int64, int64, int64) {
	if err := checkAmount(bottles); err != nil {
		return 0, 0, 0, codeOf(err)
	}
	return bottles / gross, bottles % gross / dozen, bottles % dozen, OK
}

// CrateText returns the text of a crate.
func CrateText(c Crate) string {
	if !ValidCrate(c) {
		return ""
	}
	var text strings.Builder
	for row := range slices.Chunk(c[:], rowLong) {
		var words []string
		for _, b := range row {
			words = append(words, placeText(b))
		}
		text.WriteString(strings.Join(words, " ") + "\n")
	}
	return text.String()
}

func placeText(b Bottle) string {
	if isFree(b) {
		return "-"
	}
	return BottleText(b)
}

// ReadCrate returns the crate with the given text.
func ReadCrate(text string) (Crate, int64) {
	c, err := parseCrate(text)
	return c, codeOf(err)
}

func parseCrate(text string) (Crate, error) {
	words := strings.Fields(text)
	if len(words) != Places {
		return Crate{}, errSyntax
	}
	var c Crate
	for place, word := range words {
		if word == "-" {
			continue
		}
		b, err := parseBottle(word)
		if err != nil {
			return Crate{}, err
		}
		c[place] = b
	}
	// Only blanks and line ends can be other ones by now.
	if CrateText(c) != text {
		return Crate{}, errSyntax
	}
	return c, nil
}

// BottleText returns the text of a bottle.
func BottleText(b Bottle) string {
	if !ValidBottle(b) {
		return ""
	}
	return strconv.Itoa(int(b.Kind)) + ":" + strconv.Itoa(int(b.Year))
}

// ReadBottle returns the bottle with the given text.
func ReadBottle(text string) (Bottle, int64) {
	b, err := parseBottle(text)
	return b, codeOf(err)
}

func parseBottle(text string) (Bottle, error) {
	left, right, _ := strings.Cut(text, ":")
	kind, wrongKind := strconv.ParseUint(left, 10, 8)
	year, wrongYear := strconv.ParseInt(right, 10, 16)
	if wrongKind != nil || wrongYear != nil {
		return Bottle{}, errSyntax
	}
	b := Bottle{Kind: uint8(kind), Year: int16(year)}
	// A sign or a leading zero is read as well, but stands in no text.
	if BottleText(b) != text {
		return Bottle{}, errSyntax
	}
	return b, nil
}
