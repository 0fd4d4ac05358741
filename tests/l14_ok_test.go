package tests

import (
	"slices"
	"testing"

	"loop.example/g00363/impl"
)

// noHomes are numbers that are no home; some of them would be one if only their last bits were looked at.
var noHomes = []int64{-2, -3, -5, -100, -128, -255, -256, 5, 6, 50, 98, 99, 164, 165, 199, 200, 255, 256, 260, 356, 65536, 65536 + 100, 4294967295, 4294967296, 4294967296 + 4, 4294967296 + 100, -4294967296, -4294967296 + 3, -4294967296 + 100, 1<<40 + 163, leastInt, leastInt + 1, leastInt + 4, leastInt + 100, greatestInt, greatestInt - 1, greatestInt - 64}

// allHomes are all there are but none.
func allHomes() []int64 { return append(upTo(0, 4), upTo(100, 163)...) }

// wantAnswered holds what is said by hand against the plain answer, too.
func wantAnswered(t *testing.T, list []impl.Line, homes []int64, want bool) {
	t.Helper()
	f, is := plainFlow(list)
	if !is {
		t.Fatalf("the rules by hand say no to%s", showLines(list))
	}
	if got := wantAsked(t, list, plainSpans(list, f), homes); got != want {
		t.Fatalf("HomesOk of %v is %v, of%s", homes, got, showLines(list))
	}
}

// withHome is another list, in which one box has another home.
func withHome(homes []int64, box, home int64) []int64 {
	others := slices.Clone(homes)
	others[box] = home
	return others
}

func TestHomesOkByHand(t *testing.T) {
	list := []impl.Line{lnSet(0, 5), lnSet(1, 1), lnSet(2, 2), lnIf(2, 4), lnBin(0, 0, 1, impl.BoAdd), lnGive(0)}
	wantAnswered(t, list, asHomes(0, 1, 2), true)
	wantAnswered(t, list, asHomes(2, 0, 1), true)
	wantAnswered(t, list, asHomes(4, 3, 100), true)
	wantAnswered(t, list, asHomes(163, 162, 161), true)
	wantAnswered(t, list, asHomes(0, 0, 2), false)
	wantAnswered(t, list, asHomes(0, 1, 1), false)
	wantAnswered(t, list, asHomes(100, 1, 100), false)
	wantAnswered(t, list, asHomes(0, 1), false)
	wantAnswered(t, list, asHomes(0, -1, 2), false)
	wantAnswered(t, list, asHomes(0, 1, 5), false)
	wantAnswered(t, list, asHomes(), false)
	wantAnswered(t, list, nil, false)
	wantAnswered(t, []impl.Line{lnTrap()}, asHomes(), true)
	wantAnswered(t, []impl.Line{lnTrap()}, nil, false)
}

// They are 40, also of lines without any box, whatever is told of more of them.
func TestHomesOkOfFewerAndMore(t *testing.T) {
	for _, list := range [][]impl.Line{{lnTrap()}, sets(0, 1, 2), sets(39, 0), sets(upTo(0, 39)...)} {
		homes := impl.Homes(list)
		wantAnswered(t, list, homes, true)
		for count := range 40 {
			wantAnswered(t, list, homes[:count:count], false)
			wantAnswered(t, list, homes[40-count:], false)
		}
		for _, more := range []int64{-1, 0, 4, 100, 163, 5} {
			wantAnswered(t, list, append(slices.Clone(homes), more), false)
			wantAnswered(t, list, append([]int64{more}, homes...), false)
			wantAnswered(t, list, append(slices.Clone(homes), slices.Repeat([]int64{more}, 1000)...), false)
		}
		wantAnswered(t, list, slices.Concat(homes, homes), false)
		wantAnswered(t, list, []int64{}, false)
		wantAnswered(t, list, nil, false)
		// The one that is missing stands in the room behind them.
		wantAnswered(t, list, homes[:39], false)
	}
}

// A number that is no home is one too many, of a box with a Span and of one without.
func TestHomesOkOfNumbersThatAreNoHome(t *testing.T) {
	for box := range int64(40) {
		for _, list := range [][]impl.Line{{lnTrap()}, sets(box), sets((box+1)%40, 3)} {
			for _, n := range noHomes {
				wantAnswered(t, list, withHome(impl.Homes(list), box, n), false)
				wantAnswered(t, list, withHome(upTo(100, 139), box, n), false)
			}
		}
	}
	for _, n := range noHomes {
		wantAnswered(t, []impl.Line{lnTrap()}, slices.Repeat([]int64{n}, 40), false)
	}
}

// A box with a Span has a home, and any one will do where it meets nobody.
func TestHomesOkOfOneBox(t *testing.T) {
	for box := range int64(40) {
		for _, list := range [][]impl.Line{sets(box), {lnGive(box)}, {lnTrap(), lnStore(box, box, 0), lnTrap()}} {
			for _, home := range allHomes() {
				wantAnswered(t, list, withHome(asHomes(), box, home), true)
			}
			wantAnswered(t, list, asHomes(), false)
			wantAnswered(t, list, withHome(upTo(100, 139), box, -1), false)
			wantAnswered(t, list, withHome(asHomes(), (box+1)%40, 0), false)
		}
	}
}

// Each box with a Span has one: it is asked of all of them.
func TestHomesOkWhereOneHasNone(t *testing.T) {
	list := sets(append(upTo(0, 39), upTo(0, 39)...)...)
	homes := impl.Homes(list)
	wantAnswered(t, list, homes, true)
	wantAnswered(t, list, upTo(100, 139), true)
	wantAnswered(t, list, upTo(124, 163), true)
	for box := range int64(40) {
		wantAnswered(t, list, withHome(homes, box, -1), false)
		wantAnswered(t, list, withHome(upTo(100, 139), box, -1), false)
		wantAnswered(t, list, withHome(upTo(100, 139), box, 3), true)
	}
}

// A box without a Span may have a home, and whichever it is, it is in nobody's way.
func TestHomesOkOfABoxWithoutASpan(t *testing.T) {
	for box := range int64(40) {
		for _, home := range allHomes() {
			wantAnswered(t, []impl.Line{lnTrap()}, withHome(asHomes(), box, home), true)
			other := (box + 1) % 40
			wantAnswered(t, sets(other), withHome(withHome(asHomes(), other, home), box, home), true)
			wantAnswered(t, []impl.Line{lnCall(other, 0), lnGive((box + 2) % 40)}, withHome(homesBy(map[int64]int64{other: 4, (box + 2) % 40: 107}), box, home), true)
		}
	}
	for _, home := range append(allHomes(), -1) {
		wantAnswered(t, []impl.Line{lnJump(0)}, slices.Repeat([]int64{home}, 40), true)
	}
}

// Two whose Spans Meet are not in one home, be it a shelf or in the cellar; those whose Spans don't may be.
func TestHomesOkOfTwoInOneHome(t *testing.T) {
	for _, pair := range [][2]int64{{0, 1}, {0, 39}, {38, 39}, {7, 20}, {1, 0}, {39, 0}, {20, 7}} {
		a, b := pair[0], pair[1]
		for _, home := range allHomes() {
			homes := homesBy(map[int64]int64{a: home, b: home})
			// One after the other.
			wantAnswered(t, sets(a, a, b, b), homes, true)
			wantAnswered(t, sets(a, b), homes, true)
			wantAnswered(t, []impl.Line{lnGive(a), lnGive(b)}, homes, true)
			// One within the other, both of the same lines, and two that touch in one line.
			wantAnswered(t, sets(a, b, b, a), homes, false)
			wantAnswered(t, sets(a, b, a, b), homes, false)
			wantAnswered(t, sets(a, b, a), homes, false)
			wantAnswered(t, []impl.Line{lnStore(a, b, 0), lnTrap()}, homes, false)
			wantAnswered(t, []impl.Line{lnMove(a, b), lnGive(a)}, homes, false)
			wantAnswered(t, []impl.Line{lnSet(a, 1), lnSet(a, 1), lnMove(b, a), lnGive(b)}, homes, false)
			// Each in its own.
			for _, other := range []int64{0, 4, 100, 101, 163} {
				if other != home {
					wantAnswered(t, sets(a, b, a, b), withHome(homes, b, other), true)
				}
			}
		}
	}
}

// Of many, each two are asked: those that begin far from each other, too.
func TestHomesOkOfEachTwo(t *testing.T) {
	all := upTo(0, 39)
	for _, list := range [][]impl.Line{sets(append(all, falling(39)...)...), sets(append(falling(39), all...)...), sets(append(all, all...)...)} {
		for a := range int64(40) {
			for b := range int64(40) {
				wantAnswered(t, list, withHome(upTo(100, 139), a, 100+b), a == b)
				wantAnswered(t, list, withHome(withHome(upTo(100, 139), a, 2), b, 2), a == b)
			}
		}
	}
	// No two of them meet: one home is enough.
	for _, home := range allHomes() {
		wantAnswered(t, sets(upTo(0, 39)...), slices.Repeat([]int64{home}, 40), true)
	}
}

// One that Crosses is not on a shelf; one that doesn't may be in the cellar.
func TestHomesOkOfOneThatCrosses(t *testing.T) {
	for box := range int64(40) {
		other := (box + 1) % 40
		crossing := []impl.Line{lnCall(other, 0), lnGive(box)}
		wanted := []impl.Line{lnSet(box, 1), lnCall(other, 0, box), lnGive(other)}
		for _, home := range allHomes() {
			apart := int64(0)
			if home == 0 {
				apart = 163
			}
			homes := homesBy(map[int64]int64{box: home, other: apart})
			wantAnswered(t, crossing, homes, home >= 100)
			wantAnswered(t, wanted, homes, true)
			wantAnswered(t, crossing, withHome(homes, other, -1), false)
		}
		wantAnswered(t, crossing, homesBy(map[int64]int64{other: 0}), false)
		// Two that cross have places of their own, unless they don't Meet.
		third := (box + 2) % 40
		both := []impl.Line{lnCall(other, 0), lnStore(box, third, 0), lnTrap()}
		wantAnswered(t, both, homesBy(map[int64]int64{box: 100, other: 1, third: 100}), false)
		wantAnswered(t, both, homesBy(map[int64]int64{box: 100, other: 1, third: 101}), true)
		one := []impl.Line{lnCall(other, 0), lnGive(box), lnCall(other, 0), lnGive(third)}
		wantAnswered(t, one, homesBy(map[int64]int64{box: 150, other: 1, third: 150}), true)
		wantAnswered(t, one, homesBy(map[int64]int64{box: 150, other: 1, third: 1}), false)
	}
}

// Homes of one list are those of another one only where they suit it.
func TestHomesOkOfHomesOfAnotherList(t *testing.T) {
	wantAnswered(t, sets(0, 1, 2, 2, 1, 0), impl.Homes(sets(2, 1, 0, 0, 1, 2)), true)
	wantAnswered(t, sets(0, 1, 2, 2, 1, 0), impl.Homes(sets(0, 1, 2)), false)
	wantAnswered(t, sets(0, 1, 2), impl.Homes(sets(0, 1, 2, 2, 1, 0)), true)
	wantAnswered(t, sets(0, 1, 2), impl.Homes(sets(0, 1)), false)
	wantAnswered(t, sets(0, 1), impl.Homes(sets(0, 1, 2)), true)
	wantAnswered(t, []impl.Line{lnSet(0, 5), lnCall(1, 0), lnGive(0)}, impl.Homes([]impl.Line{lnSet(0, 5), lnSet(1, 0), lnGive(0)}), false)
	wantAnswered(t, []impl.Line{lnSet(0, 5), lnSet(1, 0), lnGive(0)}, impl.Homes([]impl.Line{lnSet(0, 5), lnCall(1, 0), lnGive(0)}), true)
	maker := newLineMaker(168)
	var lists [][]impl.Line
	for i := range 300 {
		lists = append(lists, maker.squeezing(1+i%15))
	}
	answers := map[bool]int{}
	for _, list := range lists {
		spans := impl.Spans(list)
		for i := range 60 {
			answers[wantAsked(t, list, spans, impl.Homes(lists[i*5]))]++
		}
	}
	if answers[true] < 500 || answers[false] < 500 {
		t.Fatalf("%v: too few to tell", answers)
	}
}

// Homes that are right, with one or two of them changed, are held against the plain answer.
func TestHomesOkOfManyHomes(t *testing.T) {
	maker := newLineMaker(169)
	answers := map[bool]int{}
	for i := range 400 {
		list := maker.squeezing(2 + i%40)
		if i%3 == 0 {
			list = maker.flowing(2 + i%20)
		}
		spans, homes := impl.Spans(list), impl.Homes(list)
		for j := range 60 {
			others := slices.Clone(homes)
			for range 1 + j%3 {
				box := maker.box()
				if j%2 == 0 {
					others[box] = others[maker.box()]
				} else {
					others[box] = allHomes()[maker.next(69)]
				}
			}
			answers[wantAsked(t, list, spans, others)]++
		}
	}
	if answers[true] < 5000 || answers[false] < 5000 {
		t.Fatalf("%v: too few to tell", answers)
	}
}

func TestCellarSizeByHand(t *testing.T) {
	for want, homes := range [][][]int64{
		{nil, {}, {-1}, {0, 1, 2, 3, 4}, {99}, {-100, -101, -163}, asHomes(), asHomes(0, 1, 2, 3, 4), {5, 50, 98, 99}, {leastInt, leastInt + 100, -4294967296 + 100}, make([]int64, 100)},
		{{100}, {101}, {163}, {99, 100}, {100, 99, 4}, {164}, {200}, {4294967296}, {greatestInt}, {greatestInt, leastInt}, asHomes(100), homesBy(map[int64]int64{39: 100})},
		{{100, 100}, {100, 101}, {163, 0, 163}, {greatestInt, 100}, {greatestInt, greatestInt}, {164, 1<<40 + 100}, asHomes(0, 100, 1, 101)},
	} {
		for _, list := range homes {
			if got := impl.CellarSize(list); got != int64(want) {
				t.Fatalf("CellarSize of %v is %d, not %d", list, got, want)
			}
		}
	}
}

// How many there are, not how many places, and not how many of 40.
func TestCellarSizeOfMany(t *testing.T) {
	for _, count := range []int{0, 1, 2, 39, 40, 41, 63, 64, 65, 300, 65536} {
		for _, home := range []int64{100, 101, 139, 163, 164, 255, 256, 65536, 4294967296, greatestInt} {
			if got := impl.CellarSize(slices.Repeat([]int64{home}, count)); got != int64(count) {
				t.Fatalf("CellarSize of %d times %d is %d", count, home, got)
			}
		}
		for _, home := range []int64{-1, 0, 4, 5, 99, -100, -2, leastInt} {
			if got := impl.CellarSize(slices.Repeat([]int64{home}, count)); got != 0 {
				t.Fatalf("CellarSize of %d times %d is %d", count, home, got)
			}
			if got := impl.CellarSize(slices.Repeat([]int64{home, 100, home}, count)); got != int64(count) {
				t.Fatalf("CellarSize of %d times 100 between others is %d", count, got)
			}
		}
	}
	for n := int64(-300); n <= 300; n++ {
		if got := impl.CellarSize([]int64{n}); got != flag(n >= 100) {
			t.Fatalf("CellarSize of %d alone is %d", n, got)
		}
	}
}
