package tests

import (
	"slices"
	"testing"

	"loop.example/g00363/impl"
)

func TestHomesByHand(t *testing.T) {
	wantHomes(t, []impl.Line{lnGive(0)}, asHomes(0))
	wantHomes(t, []impl.Line{lnGive(39)}, homesBy(map[int64]int64{39: 0}))
	wantHomes(t, []impl.Line{lnSet(0, 5), lnSet(1, 1), lnSet(2, 2), lnIf(2, 4), lnBin(0, 0, 1, impl.BoAdd), lnGive(0)}, asHomes(0, 1, 2))
	wantHomes(t, []impl.Line{lnLoad(3, 1, 8), lnStore(2, 3, 4), lnCall(5, 1, 0), lnMove(4, 5), lnZero(1, 4), lnGive(1)}, asHomes(0, 1, 2, 3, 0, 2))
	wantHomes(t, []impl.Line{lnSet(0, 5), lnCall(1, 0), lnBin(0, 0, 1, 1), lnGive(0)}, asHomes(100, 0))
	wantHomes(t, append(sets(0, 1, 2, 3, 4, 5, 6)[:7], lnBin(0, 0, 1, 1), lnBin(0, 0, 2, 1), lnBin(0, 0, 3, 1), lnBin(0, 0, 4, 1), lnBin(0, 0, 5, 1), lnBin(0, 0, 6, 1), lnGive(0)), asHomes(100, 1, 2, 3, 4, 0, 101))
	// As many lines as there may be.
	wantHomes(t, manyMoves(300), asHomes(0, 1, 2))
	// The lines between count, also where the box is not wanted there.
	wantHomes(t, []impl.Line{lnStore(1, 1, 0), lnSet(2, 7), lnStore(2, 2, 0), lnMove(1, 0), lnGive(0)}, asHomes(0, 1, 2))
}

// Boxes without a Span have none, and yet all 40 are told.
func TestHomesOfBoxesWithoutASpan(t *testing.T) {
	for _, list := range [][]impl.Line{{lnTrap()}, {lnJump(0)}, {lnJump(1), lnTrap()}, slices.Repeat([]impl.Line{lnTrap()}, 300), slices.Repeat([]impl.Line{lnJump(299)}, 300)} {
		wantHomes(t, list, asHomes())
	}
	for box := range int64(40) {
		wantHomes(t, sets(box), homesBy(map[int64]int64{box: 0}))
		wantHomes(t, []impl.Line{lnStore(box, box, 0), lnSet(box, 1), lnGive(box)}, homesBy(map[int64]int64{box: 0}))
		other := (box + 1) % 40
		wantHomes(t, []impl.Line{lnCall(other, 0), lnGive(box)}, homesBy(map[int64]int64{box: 100, other: 0}))
	}
}

// Five at once have the five shelves, in the order in which they begin.
func TestHomesOfFiveAtOnce(t *testing.T) {
	wantHomes(t, sets(0, 1, 2, 3, 4, 4, 3, 2, 1, 0), asHomes(0, 1, 2, 3, 4))
	wantHomes(t, sets(4, 3, 2, 1, 0, 0, 1, 2, 3, 4), asHomes(4, 3, 2, 1, 0))
	wantHomes(t, sets(2, 4, 0, 3, 1, 4, 3, 2, 1, 0), asHomes(2, 4, 0, 3, 1))
	wantHomes(t, sets(39, 20, 7, 38, 0, 0, 38, 7, 20, 39), homesBy(map[int64]int64{39: 0, 20: 1, 7: 2, 38: 3, 0: 4}))
	for count := 1; count <= 5; count++ {
		wantHomes(t, sets(append(upTo(0, int64(count)-1), upTo(0, int64(count)-1)...)...), asHomes(upTo(0, int64(count)-1)...))
	}
	// All of them to the last line, by a jump.
	wantHomes(t, []impl.Line{lnSet(8, 1), lnStore(8, 7, 0), lnStore(6, 5, 0), lnStore(4, 4, 0), lnJump(1)}, homesBy(map[int64]int64{4: 0, 5: 1, 6: 2, 7: 3, 8: 4}))
}

// behindEachOther begin in order, and end in the order told.
func behindEachOther(begin []int64, end ...int64) []impl.Line {
	return sets(append(slices.Clone(begin), end...)...)
}

// Of six, whoever ends last goes to the cellar: one that has a shelf gives it to the new one.
func TestHomesOfSixAtOnce(t *testing.T) {
	wantHomes(t, sets(0, 1, 2, 3, 4, 5, 1, 2, 3, 4, 5, 0), asHomes(100, 1, 2, 3, 4, 0))
	wantHomes(t, sets(0, 1, 2, 3, 4, 5, 0, 2, 3, 4, 5, 1), asHomes(0, 100, 2, 3, 4, 1))
	wantHomes(t, sets(0, 1, 2, 3, 4, 5, 0, 1, 3, 4, 5, 2), asHomes(0, 1, 100, 3, 4, 2))
	wantHomes(t, sets(0, 1, 2, 3, 4, 5, 0, 1, 2, 4, 5, 3), asHomes(0, 1, 2, 100, 4, 3))
	wantHomes(t, sets(0, 1, 2, 3, 4, 5, 0, 1, 2, 3, 5, 4), asHomes(0, 1, 2, 3, 100, 4))
	// The new one itself: all others stay where they are.
	wantHomes(t, sets(0, 1, 2, 3, 4, 5, 0, 1, 2, 3, 4, 5), asHomes(0, 1, 2, 3, 4, 100))
	wantHomes(t, sets(0, 1, 2, 3, 4, 5, 4, 3, 2, 1, 0, 5), asHomes(0, 1, 2, 3, 4, 100))
	// Who has the greatest Box, or a great shelf, and doesn't end last keeps it.
	wantHomes(t, sets(39, 38, 37, 36, 35, 0, 39, 38, 37, 36, 0, 35), homesBy(map[int64]int64{39: 0, 38: 1, 37: 2, 36: 3, 35: 100, 0: 4}))
	wantHomes(t, sets(39, 38, 37, 36, 35, 0, 35, 36, 37, 38, 39, 0), homesBy(map[int64]int64{39: 0, 38: 1, 37: 2, 36: 3, 35: 4, 0: 100}))
	// In every order of the six, whoever is the last.
	maker := newBodyMaker(164)
	for range 300 {
		begin, end := maker.shuffled(upTo(0, 5)), maker.shuffled(upTo(0, 5))
		want := asHomes()
		for shelf, box := range begin[:5] {
			want[box] = int64(shelf)
		}
		want[begin[5]] = want[end[5]]
		want[end[5]] = 100
		wantHomes(t, behindEachOther(begin, end...), want)
	}
}

// shuffled are the numbers in another order.
func (m *aBodyMaker) shuffled(list []int64) []int64 {
	list = slices.Clone(list)
	for i := range list {
		j := i + m.next(len(list)-i)
		list[i], list[j] = list[j], list[i]
	}
	return list
}

// Of two that end at one line, last of all six, the one with the greater Box goes to the cellar, whichever came first.
func TestHomesOfTwoThatEndAtOneLine(t *testing.T) {
	maker := newBodyMaker(165)
	for range 30 {
		begin := maker.shuffled(upTo(0, 5))
		for a := range int64(6) {
			for b := range int64(6) {
				if a == b {
					continue
				}
				rest := slices.DeleteFunc(upTo(0, 5), func(box int64) bool { return box == a || box == b })
				list := behindEachOther(begin, rest...)
				list = append(list[:len(list)-1], lnStore(a, b, 0), lnTrap())
				want := asHomes()
				for shelf, box := range begin[:5] {
					want[box] = int64(shelf)
				}
				want[begin[5]] = want[max(a, b)]
				want[max(a, b)] = 100
				wantHomes(t, list, want)
			}
		}
	}
	// Two that end at one line, but not as the last: they count for nothing.
	list := append(sets(5, 4, 3, 2, 1, 0, 1, 2, 3)[:9], lnStore(4, 5, 0), lnSet(0, 1), lnTrap())
	wantHomes(t, list, asHomes(100, 4, 3, 2, 1, 0))
}

// Three that end at one line, and all six.
func TestHomesOfMoreThatEndAtOneLine(t *testing.T) {
	wantHomes(t, append(sets(0, 1, 2, 3, 4, 5, 0, 1, 2)[:9], lnCall(4, 0, 4, 5, 3), lnTrap()), asHomes(0, 1, 2, 3, 4, 100))
	wantHomes(t, append(sets(5, 4, 3, 2, 1, 0, 0, 1, 2)[:9], lnCall(4, 0, 3, 4, 5), lnTrap()), asHomes(0, 4, 3, 2, 1, 100))
	wantHomes(t, append(sets(1, 5, 2, 3, 4, 0, 5, 3, 4)[:9], lnCall(2, 0, 2, 0, 1), lnTrap()), asHomes(2, 0, 100, 3, 4, 1))
	maker := newBodyMaker(166)
	for range 200 {
		begin := maker.shuffled(upTo(0, 5))
		list := sets(begin...)[:6]
		list = append(list, lnStore(0, 1, 0), lnStore(2, 3, 0), lnStore(4, 5, 0), lnJump(6))
		want := asHomes()
		for shelf, box := range begin[:5] {
			want[box] = int64(shelf)
		}
		want[begin[5]] = want[5]
		want[5] = 100
		wantHomes(t, list, want)
	}
}

// Of so many, who began first ends last, or who began first ends first.
func TestHomesOfSevenAndMore(t *testing.T) {
	wantHomes(t, sets(0, 1, 2, 3, 4, 5, 6, 6, 5, 4, 3, 2, 1, 0), asHomes(100, 101, 2, 3, 4, 0, 1))
	wantHomes(t, sets(0, 1, 2, 3, 4, 5, 6, 0, 1, 2, 3, 4, 5, 6), asHomes(0, 1, 2, 3, 4, 100, 101))
	wantHomes(t, sets(0, 1, 2, 3, 4, 5, 6, 5, 6, 0, 1, 2, 3, 4), asHomes(0, 1, 2, 100, 101, 4, 3))
	// Who is in the cellar counts for nothing any more, though it ends last of all seven.
	wantHomes(t, sets(0, 1, 2, 3, 4, 5, 6, 2, 3, 4, 5, 6, 1, 0), asHomes(100, 101, 2, 3, 4, 0, 1))
	// The new one has its shelf back, as it were: two are squeezed out of one shelf.
	wantHomes(t, sets(0, 1, 2, 3, 4, 5, 6, 1, 2, 3, 4, 6, 5, 0), asHomes(100, 1, 2, 3, 4, 101, 0))
	for many := int64(6); many <= 40; many++ {
		begin, end := upTo(0, many-1), falling(many-1)
		want := asHomes()
		for box := range many {
			want[box] = box % 5
			if box < many-5 {
				want[box] = 100 + box
			}
		}
		wantHomes(t, behindEachOther(begin, end...), want)
		for box := range many {
			want[box] = box
			if box >= 5 {
				want[box] = 95 + box
			}
		}
		wantHomes(t, behindEachOther(begin, begin...), want)
		// Those that begin first have the greatest Boxes: they go to the cellar, and there they are by Box.
		for box := range many {
			want[box] = (many - 1 - box) % 5
			if box >= 5 {
				want[box] = 95 + box
			}
		}
		wantHomes(t, behindEachOther(end, begin...), want)
	}
}

// A shelf is free again behind the last line of the one that had it, and the least one that is free is taken.
func TestHomesOfAShelfThatIsFreeAgain(t *testing.T) {
	wantHomes(t, sets(0, 1, 2, 3), asHomes(0, 0, 0, 0))
	wantHomes(t, sets(0, 0, 1, 1, 2, 2), asHomes(0, 0, 0))
	wantHomes(t, sets(0, 1, 0, 2, 1, 2), asHomes(0, 1, 0))
	wantHomes(t, sets(0, 1, 2, 1, 3, 2, 0, 3), asHomes(0, 1, 2, 1))
	wantHomes(t, sets(0, 1, 2, 3, 4, 3, 1, 5, 6, 0, 2, 4, 5, 6), asHomes(0, 1, 2, 3, 4, 1, 3))
	wantHomes(t, sets(0, 1, 2, 3, 4, 4, 3, 2, 1, 0, 9, 8, 7, 6, 5, 5, 6, 7, 8, 9), asHomes(0, 1, 2, 3, 4, 4, 3, 2, 1, 0))
	// Who was squeezed out of it keeps it from nobody: box 5 has it, and behind that one box 6.
	wantHomes(t, sets(0, 1, 2, 3, 4, 5, 5, 6, 6, 1, 2, 3, 4, 0), asHomes(100, 1, 2, 3, 4, 0, 0))
	// Who went to the cellar stays there, though a shelf is free later on.
	wantHomes(t, sets(0, 1, 2, 3, 4, 5, 0, 1, 2, 3, 4, 6, 6, 5), asHomes(0, 1, 2, 3, 4, 100, 0))
	var order []int64
	for box := range int64(40) {
		order = append(order, box, box)
	}
	wantHomes(t, sets(order...), make([]int64, 40))
}

// Two that touch in one line are not of one shelf.
func TestHomesOfTwoThatTouch(t *testing.T) {
	wantHomes(t, []impl.Line{lnMove(1, 0), lnGive(1)}, asHomes(0, 1))
	wantHomes(t, []impl.Line{lnMove(2, 1), lnMove(3, 2), lnMove(4, 3), lnGive(4)}, homesBy(map[int64]int64{1: 0, 2: 1, 3: 0, 4: 1}))
	wantHomes(t, []impl.Line{lnMove(3, 4), lnMove(2, 3), lnMove(1, 2), lnGive(1)}, homesBy(map[int64]int64{4: 1, 3: 0, 2: 1, 1: 0}))
	wantHomes(t, []impl.Line{lnSet(0, 1), lnSet(1, 1), lnMove(2, 0), lnMove(3, 1), lnStore(2, 3, 0), lnTrap()}, asHomes(0, 1, 2, 0))
	// One line further on it is free.
	wantHomes(t, []impl.Line{lnStore(0, 0, 0), lnSet(1, 1), lnGive(1)}, asHomes(0, 0))
	// The sixth one touches each of the five in one line: at their last line it begins.
	wantHomes(t, append(sets(0, 1, 2, 3, 4)[:5], lnStore(0, 1, 0), lnStore(2, 3, 0), lnMove(5, 4), lnSet(0, 1), lnSet(1, 1), lnSet(2, 1), lnSet(3, 1), lnSet(5, 1), lnTrap()), asHomes(0, 1, 2, 3, 4, 100))
	wantHomes(t, append(sets(0, 1, 2, 3, 4)[:5], lnStore(0, 1, 0), lnStore(2, 3, 0), lnMove(5, 4), lnSet(1, 1), lnSet(2, 1), lnSet(3, 1), lnSet(5, 1), lnTrap()), asHomes(0, 1, 2, 3, 4, 0))
}

// Those that begin at one line are looked at by Box, whatever the line tells first.
func TestHomesOfSpansThatBeginAtOneLine(t *testing.T) {
	wantHomes(t, []impl.Line{lnStore(8, 2, 0), lnTrap()}, homesBy(map[int64]int64{2: 0, 8: 1}))
	wantHomes(t, []impl.Line{lnCall(5, 0, 39, 7, 3), lnTrap()}, homesBy(map[int64]int64{3: 0, 5: 1, 7: 2, 39: 3}))
	wantHomes(t, []impl.Line{lnStore(4, 3, 0), lnStore(2, 1, 0), lnGive(0)}, asHomes(0, 1, 2, 3, 4))
	wantHomes(t, []impl.Line{lnTrap(), lnStore(4, 3, 0), lnStore(2, 1, 0), lnGive(0)}, asHomes(0, 1, 2, 3, 4))
	// Six of them: the greatest Box of those that end last gives its shelf to box 5.
	wantHomes(t, []impl.Line{lnStore(5, 4, 0), lnStore(3, 2, 0), lnStore(1, 0, 0), lnTrap()}, asHomes(0, 100, 2, 3, 4, 1))
	wantHomes(t, []impl.Line{lnStore(0, 1, 0), lnStore(2, 3, 0), lnStore(4, 5, 0), lnTrap()}, asHomes(0, 1, 2, 3, 4, 100))
	wantHomes(t, []impl.Line{lnStore(0, 1, 0), lnStore(5, 3, 0), lnStore(4, 2, 0), lnTrap()}, asHomes(0, 1, 2, 3, 100, 4))
	// Box 9 begins ahead of them: it has the least shelf, though its Box is the greatest.
	wantHomes(t, []impl.Line{lnSet(9, 1), lnTrap(), lnCall(6, 0, 7, 2, 4), lnSet(9, 1), lnTrap()}, homesBy(map[int64]int64{9: 0, 2: 1, 4: 2, 6: 3, 7: 4}))
	// By From first: box 1 begins one line behind box 2.
	wantHomes(t, sets(2, 1, 2, 1), asHomes(-1, 1, 0))
	maker := newBodyMaker(167)
	for range 200 {
		five := maker.shuffled(upTo(0, 39))[:5]
		want := asHomes()
		for shelf, box := range joinedRising(five) {
			want[box] = int64(shelf)
		}
		for _, ahead := range [][]impl.Line{nil, {lnTrap()}, {lnTrap(), lnJump(0)}} {
			wantHomes(t, append(slices.Clone(ahead), lnStore(five[0], five[1], 0), lnStore(five[2], five[3], 0), lnGive(five[4])), want)
		}
	}
}

// All of them begin at line 0, and two end at each line.
func TestHomesOfManyThatBeginAtOneLine(t *testing.T) {
	var list []impl.Line
	want := asHomes()
	for box := int64(0); box < 40; box += 2 {
		list = append(list, lnStore(box, box+1, 0))
		for _, other := range []int64{box, box + 1} {
			want[other] = other
			if other >= 5 {
				want[other] = 95 + other
			}
		}
		wantHomes(t, append(slices.Clone(list), lnTrap()), want)
	}
	// Those that are looked at first end last, and of each two the greater Box is squeezed out first: 1, 0 and 3.
	wantHomes(t, []impl.Line{lnStore(7, 6, 0), lnStore(5, 4, 0), lnStore(3, 2, 0), lnStore(1, 0, 0), lnTrap()}, asHomes(100, 101, 2, 102, 4, 1, 0, 3))
}

// One that a call crosses goes to the cellar, whatever shelf is free.
func TestHomesOfOneThatCrosses(t *testing.T) {
	for box := range int64(40) {
		other := (box + 7) % 40
		wantHomes(t, []impl.Line{lnCall(other, 0), lnGive(box)}, homesBy(map[int64]int64{box: 100, other: 0}))
		wantHomes(t, []impl.Line{lnSet(box, 1), lnCall(other, 0), lnStore(box, other, 0), lnTrap()}, homesBy(map[int64]int64{box: 100, other: 0}))
		// It is crossed long behind its first line, and not at all where the call sets it.
		list := append(slices.Repeat([]impl.Line{lnStore(box, box, 0)}, 200), lnCall(other, 0), lnGive(box))
		wantHomes(t, list, homesBy(map[int64]int64{box: 100, other: 0}))
		list[200] = lnCall(box, 0)
		wantHomes(t, list, homesBy(map[int64]int64{box: 0}))
	}
}

// None that it meets is kept from a shelf by it, however many cross, and none of them squeezes anybody out.
func TestHomesBesideThoseThatCross(t *testing.T) {
	for crosses := int64(1); crosses <= 35; crosses++ {
		for _, first := range []int64{0, 40 - 5 - crosses} {
			shelved, crossing := upTo(crosses, crosses+4), upTo(0, crosses-1)
			if first > 0 {
				shelved, crossing = upTo(0, 4), upTo(first+5, 39)
			}
			list := sets(crossing...)
			list[crosses] = lnCall(shelved[0], 0)
			for _, box := range shelved[1:] {
				list = append(list, lnSet(box, 1))
			}
			list = append(list, lnStore(shelved[0], shelved[1], 0), lnStore(shelved[2], shelved[3], 0))
			for _, box := range crossing {
				list = append(list, lnStore(shelved[4], box, 0))
			}
			want := asHomes()
			for i, box := range shelved {
				want[box] = int64(i)
			}
			for i, box := range crossing {
				want[box] = 100 + int64(i)
			}
			wantHomes(t, append(list, lnTrap()), want)
		}
	}
	// It would end first of six, and yet it goes; the one that ends last keeps its shelf.
	wantHomes(t, []impl.Line{lnSet(5, 1), lnCall(0, 0), lnSet(1, 1), lnStore(5, 5, 0), lnSet(2, 1), lnSet(3, 1), lnSet(4, 1), lnStore(0, 1, 0), lnStore(2, 3, 0), lnGive(4)}, asHomes(0, 1, 2, 3, 4, 100))
	// Six others meet beside it: one of these goes, too, though the crossed one ends behind all of them.
	wantHomes(t, []impl.Line{lnCall(0, 0), lnSet(1, 1), lnSet(2, 1), lnSet(3, 1), lnSet(4, 1), lnSet(5, 1), lnStore(0, 1, 0), lnStore(2, 4, 0), lnStore(5, 5, 0), lnStore(3, 3, 0), lnGive(6)}, asHomes(0, 1, 2, 100, 4, 3, 101))
}

func TestHomesOfManyThatCross(t *testing.T) {
	for many := int64(1); many <= 39; many++ {
		list := []impl.Line{lnCall(39, 0)}
		want := homesBy(map[int64]int64{39: 0})
		for box := range many {
			list = append(list, lnStore(box, 38, 0))
			want[box], want[38] = 100+box, 100+min(many, 38)
		}
		wantHomes(t, append(list, lnTrap()), want)
	}
	// All but the one that the last call sets.
	wantHomes(t, callsAheadOfAll(0, 1), append([]int64{100, 0}, upTo(101, 138)...))
	wantHomes(t, callsAheadOfAll(0, 1, 0), append([]int64{0, 100}, upTo(101, 138)...))
	wantHomes(t, callsAheadOfAll(0, 1, 2), append([]int64{100, 101, 0}, upTo(102, 138)...))
	wantHomes(t, callsAheadOfAll(39), append(upTo(100, 138), 0))
	// All 40.
	list := callsAheadOfAll(0)
	wantHomes(t, append(list[:len(list)-1], lnCall(1, 0), lnGive(0)), upTo(100, 139))
}

// callsAheadOfAll are calls that set these boxes, and then all 40 are used.
func callsAheadOfAll(boxes ...int64) []impl.Line {
	var list []impl.Line
	for _, box := range boxes {
		list = append(list, lnCall(box, 0))
	}
	for box := int64(0); box < 40; box += 2 {
		list = append(list, lnStore(box+1, box, 0))
	}
	return append(list, lnTrap())
}

// In the cellar they are by Box, one behind the other, whoever came there first, and for whatever reason.
func TestPlacesInTheCellarAreByBox(t *testing.T) {
	// Box 9 goes first, then 8, then 7.
	wantHomes(t, sets(9, 8, 7, 0, 1, 2, 3, 4, 4, 3, 2, 1, 0, 7, 8, 9), asHomes(3, 4, 0, 1, 2, -1, -1, 100, 101, 102))
	wantHomes(t, sets(7, 8, 9, 0, 1, 2, 3, 4, 4, 3, 2, 1, 0, 9, 8, 7), asHomes(3, 4, 0, 1, 2, -1, -1, 100, 101, 102))
	// Box 3 is crossed long behind the line at which box 30 was squeezed out, and box 20 is squeezed out behind both.
	list := sets(30, 0, 1, 2, 4, 5, 5, 4, 2, 1, 0, 30)[:12]
	list = append(list, lnStore(3, 3, 0), lnCall(6, 0), lnGive(3))
	want := homesBy(map[int64]int64{30: 101, 0: 1, 1: 2, 2: 3, 4: 4, 5: 0, 6: 0, 3: 100})
	wantHomes(t, list, want)
	list = append(list, sets(20, 10, 11, 12, 13, 14, 14, 13, 12, 11, 10, 20)...)
	want[20], want[10], want[11], want[12], want[13], want[14], want[30] = 101, 1, 2, 3, 4, 0, 102
	wantHomes(t, list, want)
	// Nobody else is there, whatever its Box is.
	for box := range int64(40) {
		others := slices.DeleteFunc(upTo(0, 39), func(other int64) bool { return other == box })[:5]
		want := homesBy(map[int64]int64{box: 100})
		for shelf, other := range others {
			want[other] = int64(shelf)
		}
		wantHomes(t, sets(slices.Concat(others, []int64{box}, others, []int64{box})...), want)
	}
}
