package tests

import (
	"slices"
	"testing"

	"loop.example/g00363/impl"
)

func plainLinesOk(list []impl.Line) bool {
	if len(list) == 0 || len(list) > 300 {
		return false
	}
	for _, l := range list {
		if _, is := plainLineRule(l); !is || (l.Kind == 5 || l.Kind == 6) && l.N >= int64(len(list)) {
			return false
		}
	}
	return slices.Contains([]int64{5, 10, 11}, list[len(list)-1].Kind)
}

// plainBoxes asks of each box from the greatest on whether a line has to do with it.
func plainBoxes(list []impl.Line) int64 {
	for box := int64(39); box >= 0 && plainLinesOk(list); box-- {
		for _, l := range list {
			if plainSets(l) == box || slices.Contains(plainUses(l), box) {
				return box + 1
			}
		}
	}
	return 0
}

func wantLines(t *testing.T, list []impl.Line, boxes int64) {
	t.Helper()
	if !impl.LinesOk(list) {
		t.Fatalf("LinesOk(%v) is false", list)
	}
	if got := impl.Boxes(list); got != boxes {
		t.Fatalf("Boxes(%v) = %d, not %d", list, got, boxes)
	}
}

func wantNoLines(t *testing.T, list []impl.Line) {
	t.Helper()
	if impl.LinesOk(list) {
		t.Fatalf("LinesOk(%v) is true", list)
	}
	if got := impl.Boxes(list); got != 0 {
		t.Fatalf("Boxes(%v) = %d, though they are not right", list, got)
	}
}

// wantAsListed answers whether they are right.
func wantAsListed(t *testing.T, list []impl.Line) bool {
	t.Helper()
	is := plainLinesOk(list)
	if is {
		wantLines(t, list, plainBoxes(list))
	} else {
		wantNoLines(t, list)
	}
	return is
}

// manyMoves are so many lines, the last of which gives; all of them have to do with box 2 at most.
func manyMoves(rows int) []impl.Line {
	return append(slices.Repeat([]impl.Line{lnMove(2, 1)}, rows-1), lnGive(0))
}

// wrongLines are one for each thing of a Line that may be not right.
func wrongLines() []impl.Line {
	list := []impl.Line{{}, {Kind: 12}, {Kind: -1}, lnSet(0, -1), lnSet(0, 4294967296), lnBin(0, 0, 0, 0), lnBin(0, 0, 0, 13), lnJump(-1), lnJump(300), lnIf(0, -1), lnIf(0, 300), lnCall(0, -1), lnCall(0, 4), lnCall(0, 0, 1, 2, 3, 4), lnCall(0, 0, -1), lnCall(0, 0, 1, 40), lnLoad(0, 0, 256), lnStore(0, 0, -1)}
	for _, r := range lineRules {
		for _, field := range boxFields {
			for _, n := range []int64{-1, 40} {
				l := r.leastLine()
				field.write(&l, n)
				list = append(list, l)
			}
		}
		if r.most == 0 {
			l := r.leastLine()
			l.List = []int64{0}
			list = append(list, l)
		}
	}
	return list
}

// A lineMaker makes lines of a fixed sequence, with boxes below some number.
type aLineMaker struct {
	*aBodyMaker
	below int
}

func newLineMaker(seed uint64) *aLineMaker { return &aLineMaker{newBodyMaker(seed), 40} }

func (m *aLineMaker) box() int64 { return int64(m.next(m.below)) }

// line is a right one of so many.
func (m *aLineMaker) line(rules []aLineRule, rows int) impl.Line {
	r := rules[m.next(len(rules))]
	l := impl.Line{Kind: r.kind, D: m.box() * flag(r.d), A: m.box() * flag(r.a), B: m.box() * flag(r.b)}
	if r.kind == 5 || r.kind == 6 {
		l.N = int64(m.next(rows))
	} else if r.greatest > 0 {
		l.N = r.least + int64(m.next(int(r.greatest-r.least)+1))
	}
	for range m.next(r.most + 1) {
		l.List = append(l.List, m.box())
	}
	return l
}

// lines are so many, 1 at least, all of them right.
func (m *aLineMaker) lines(rows int) []impl.Line {
	m.below = 1 + m.next(40)
	var list []impl.Line
	for range rows - 1 {
		list = append(list, m.line(lineRules, rows))
	}
	last := []aLineRule{lineRules[4], lineRules[9], lineRules[10]}
	return append(list, m.line(last, rows))
}

func TestLinesOkByHand(t *testing.T) {
	wantLines(t, []impl.Line{lnSet(0, 5), lnSet(1, 1), lnSet(2, 2), lnIf(2, 4), lnBin(0, 0, 1, impl.BoAdd), lnGive(0)}, 3)
	wantLines(t, []impl.Line{lnGive(0)}, 1)
	wantLines(t, []impl.Line{lnGive(39)}, 40)
	wantLines(t, []impl.Line{lnTrap()}, 0)
	wantLines(t, []impl.Line{lnJump(0)}, 0)
	wantLines(t, []impl.Line{lnTrap(), lnTrap(), lnJump(1)}, 0)
	wantLines(t, []impl.Line{lnGive(3), lnGive(8), lnGive(5)}, 9)
	wantLines(t, []impl.Line{lnJump(1), lnMove(4, 2), lnTrap()}, 5)
	wantLines(t, []impl.Line{lnCall(1, 0, 9, 12, 3), lnGive(1)}, 13)
	wantLines(t, []impl.Line{lnStore(6, 7, 255), lnTrap()}, 8)
	wantNoLines(t, []impl.Line{lnSet(0, 5)})
	wantNoLines(t, []impl.Line{lnGive(0), lnSet(0, 5)})
	wantNoLines(t, []impl.Line{lnSet(9, 5), lnIf(9, 0)})
	wantNoLines(t, []impl.Line{lnJump(1)})
	wantNoLines(t, []impl.Line{lnMove(40, 0), lnGive(0)})
}

func TestLinesOkOfNone(t *testing.T) {
	for _, list := range [][]impl.Line{nil, {}, make([]impl.Line, 0, 5), manyMoves(3)[:0], {lnGive(0)}} {
		wantNoLines(t, list[:0])
	}
}

func TestLinesOkAtTheLimit(t *testing.T) {
	for rows := 1; rows <= 300; rows++ {
		boxes := int64(3)
		if rows == 1 {
			boxes = 1
		}
		wantLines(t, manyMoves(rows), boxes)
	}
	for _, rows := range []int{301, 302, 512, 600, 65536, 65537} {
		wantNoLines(t, manyMoves(rows))
		wantNoLines(t, slices.Repeat([]impl.Line{lnTrap()}, rows))
	}
	for _, last := range []impl.Line{lnJump(299), lnJump(0), lnGive(2), lnTrap()} {
		wantLines(t, append(manyMoves(299), last), 3)
		wantNoLines(t, append(manyMoves(300), last))
	}
}

// One line that is not right is one too many, wherever it stands.
func TestLinesOkOfOneWrong(t *testing.T) {
	for _, wrong := range wrongLines() {
		wantNoLine(t, wrong)
		for _, rows := range []int{1, 2, 5, 300} {
			for _, at := range []int{0, 1, rows / 2, rows - 2, rows - 1} {
				if at < 0 || at >= rows {
					continue
				}
				list := manyMoves(rows)
				list[at] = wrong
				wantNoLines(t, list)
			}
		}
	}
	for _, right := range []impl.Line{lnSet(0, 1), lnZero(1, 1), lnIf(0, 4), lnJump(0), lnCall(1, 3, 0), lnLoad(0, 0, 255), lnStore(0, 0, 0), lnGive(1), lnTrap()} {
		for at := range 4 {
			list := manyMoves(5)
			list[at] = right
			wantLines(t, list, 3)
		}
	}
}

// A place is there where it is less than how many lines there are.
func TestLinesOkOfPlaces(t *testing.T) {
	for _, rows := range []int64{1, 2, 3, 4, 10, 255, 256, 299, 300} {
		for _, at := range []int64{0, rows / 2, rows - 1} {
			for _, goes := range []impl.Line{lnJump(0), lnIf(2, 0)} {
				if goes.Kind == 6 && at == rows-1 {
					continue
				}
				list := append(slices.Repeat([]impl.Line{lnSet(2, 0)}, int(rows)-1), lnGive(2))
				for _, place := range []int64{0, at, rows / 3, rows - 1} {
					goes.N = place
					list[at] = goes
					wantAsListed(t, list)
					if !impl.LinesOk(list) {
						t.Fatalf("%d lines: the one at %d goes to %d, which is there", rows, at, place)
					}
				}
				for _, place := range []int64{rows, rows + 1, max(rows, 299), 300, -1, -rows, 4294967296, leastInt, greatestInt} {
					goes.N = place
					list[at] = goes
					wantNoLines(t, list)
				}
			}
		}
	}
}

// The last line is one behind which none is wanted; such ones may stand elsewhere, too.
func TestLinesOkOfEachKindAsTheLast(t *testing.T) {
	for _, r := range lineRules {
		l := r.leastLine()
		for _, list := range [][]impl.Line{{l}, {lnTrap(), l}, {lnGive(0), lnJump(0), l}, append(manyMoves(299), l)} {
			is := r.kind == 5 || r.kind == 10 || r.kind == 11
			if got := impl.LinesOk(list); got != is {
				t.Fatalf("LinesOk(%v) is %v", list, got)
			}
			wantAsListed(t, list)
			wantAsListed(t, append(list, lnTrap()))
			wantAsListed(t, append(list, l))
		}
	}
}

// Each box that a line of each Kind reads or writes counts, and nothing else of it does.
func TestBoxesOfEachField(t *testing.T) {
	for _, r := range lineRules {
		for box := range int64(40) {
			for i, field := range boxFields {
				l := r.leastLine()
				if !r.told()[i] {
					continue
				}
				field.write(&l, box)
				wantLines(t, []impl.Line{l, lnTrap()}, box+1)
				wantLines(t, []impl.Line{lnTrap(), l, lnJump(0)}, box+1)
			}
		}
	}
	for box := range int64(40) {
		wantLines(t, []impl.Line{lnCall(0, 0, box), lnTrap()}, box+1)
		for at := range 3 {
			list := make([]int64, 3)
			list[at] = box
			wantLines(t, []impl.Line{lnCall(0, 0, list...), lnTrap()}, box+1)
			wantLines(t, []impl.Line{lnCall(box, 0, 0), lnTrap()}, box+1)
		}
	}
}

func TestBoxesThatAreReadOrWrittenAlone(t *testing.T) {
	// Written, and read by none.
	wantLines(t, []impl.Line{lnSet(7, 0), lnTrap()}, 8)
	wantLines(t, []impl.Line{lnMove(9, 1), lnGive(1)}, 10)
	wantLines(t, []impl.Line{lnCall(39, 0), lnGive(1)}, 40)
	// Read, and written by none.
	wantLines(t, []impl.Line{lnMove(1, 9), lnGive(1)}, 10)
	wantLines(t, []impl.Line{lnBin(0, 3, 20, 1), lnGive(0)}, 21)
	wantLines(t, []impl.Line{lnBin(0, 20, 3, 1), lnGive(0)}, 21)
	wantLines(t, []impl.Line{lnIf(39, 1), lnTrap()}, 40)
	// Lines that one does not come to count, too.
	wantLines(t, []impl.Line{lnJump(2), lnMove(30, 31), lnTrap()}, 32)
	wantLines(t, []impl.Line{lnTrap(), lnGive(30)}, 31)
}

// Numbers that are no boxes do not count as such.
func TestBoxesOfLinesWithoutAny(t *testing.T) {
	wantLines(t, []impl.Line{lnTrap()}, 0)
	for _, rows := range []int{1, 2, 50, 300} {
		wantLines(t, slices.Repeat([]impl.Line{lnTrap()}, rows), 0)
		wantLines(t, slices.Repeat([]impl.Line{lnJump(int64(rows) - 1)}, rows), 0)
	}
	wantLines(t, []impl.Line{lnSet(0, 39), lnTrap()}, 1)
	wantLines(t, []impl.Line{lnBin(0, 0, 0, 12), lnTrap()}, 1)
	wantLines(t, []impl.Line{lnCall(0, 3), lnTrap()}, 1)
	wantLines(t, []impl.Line{lnLoad(0, 0, 39), lnTrap()}, 1)
	wantLines(t, []impl.Line{lnStore(0, 0, 39), lnTrap()}, 1)
	wantLines(t, append(manyMoves(60)[:59], lnJump(39)), 3)
}

// P9: what is used or set is below Boxes, and one of these is just one less.
func TestBoxesUsedOrSetAreBelowBoxes(t *testing.T) {
	maker := newLineMaker(91)
	counts := map[int64]int{}
	for i := range 3000 {
		list := maker.lines(1 + i%300)
		if !wantAsListed(t, list) {
			t.Fatalf("%v: the rules by hand say no", list)
		}
		boxes := impl.Boxes(list)
		counts[boxes]++
		greatest := int64(-1)
		for _, l := range list {
			wantAsRuled(t, l)
			uses := impl.Uses(l)
			for j, box := range uses {
				if box < 0 || j > 0 && box <= uses[j-1] {
					t.Fatalf("Uses(%v) = %v", l, uses)
				}
				greatest = max(greatest, box)
			}
			greatest = max(greatest, impl.Sets(l))
		}
		if greatest != boxes-1 {
			t.Fatalf("Boxes(%v) = %d, and the greatest that is used or set is %d", list, boxes, greatest)
		}
	}
	for boxes := range int64(41) {
		if counts[boxes] == 0 {
			t.Fatalf("%v: no lines have %d boxes", counts, boxes)
		}
	}
}

// All short lists of some lines, right and wrong, are held against the rules by hand.
func TestLinesOkOfAllShortLists(t *testing.T) {
	some := []impl.Line{lnSet(1, 9), lnMove(2, 5), lnMove(5, 2), lnBin(0, 1, 38, 12), lnJump(0), lnJump(1), lnJump(2), lnJump(3), lnIf(3, 0), lnIf(3, 2), lnIf(39, 3), lnCall(1, 3, 7, 6), lnLoad(4, 1, 255), lnStore(8, 1, 0), lnStore(1, 8, 0), lnGive(0), lnGive(6), lnTrap(), {}, lnGive(40)}
	right := 0
	for _, a := range some {
		right += int(flag(wantAsListed(t, []impl.Line{a})))
		for _, b := range some {
			right += int(flag(wantAsListed(t, []impl.Line{a, b})))
			for _, c := range some {
				right += int(flag(wantAsListed(t, []impl.Line{a, b, c})))
			}
		}
	}
	if right < 1000 || right > 2000 {
		t.Fatalf("%d are right: too few or too many to tell", right)
	}
}
