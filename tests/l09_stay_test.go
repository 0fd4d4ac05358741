package tests

import (
	"slices"
	"testing"

	"loop.example/g00363/impl"
)

func sameLine(a, b impl.Line) bool {
	return a.Kind == b.Kind && a.D == b.D && a.A == b.A && a.B == b.B && a.N == b.N && slices.Equal(a.List, b.List)
}

func sameLines(a, b []impl.Line) bool { return slices.EqualFunc(a, b, sameLine) }

func copyOfLine(l impl.Line) impl.Line {
	l.List = slices.Clone(l.List)
	return l
}

func copyOfLines(list []impl.Line) []impl.Line {
	var copied []impl.Line
	for _, l := range list {
		copied = append(copied, copyOfLine(l))
	}
	return copied
}

// someLines are right ones of each Kind, calls whose boxes rise, fall and are alike, and wrong ones.
func someLines() []impl.Line {
	list := append(wrongLines(), lnCall(0, 0), lnCall(0, 0, 1), lnCall(0, 0, 1, 2), lnCall(0, 0, 1, 2, 3), lnCall(0, 0, 3, 2, 1), lnCall(0, 0, 2, 1, 2), lnCall(0, 0, 7, 7, 7), lnCall(39, 3, 39, 0, 38), lnCall(0, 0, 4, 3, 2, 1), lnCall(0, 9, 3, 2, 1), lnBin(1, 3, 2, 1), lnStore(3, 2, 1))
	maker := newLineMaker(92)
	for range 300 {
		list = append(list, maker.line(lineRules, 300))
	}
	return list
}

// P21: what Uses answers is new memory each time: neither List nor another answer is in it.
func TestUsesAreNewMemory(t *testing.T) {
	for _, l := range someLines() {
		kept := copyOfLine(l)
		first, second := impl.Uses(l), impl.Uses(l)
		spoil(first)
		if !sameLine(l, kept) {
			t.Fatalf("Uses(%v) answers its List", kept)
		}
		if !slices.Equal(second, plainUses(kept)) {
			t.Fatalf("two answers of Uses(%v) share memory", kept)
		}
		spoil(second)
		spoil(impl.Uses(l)[:0])
		wantAsRuled(t, l)
	}
}

// P21: what was answered stays as it is when List is another one.
func TestUsesStayWhenTheListChanges(t *testing.T) {
	for _, l := range someLines() {
		given := copyOfLine(l)
		got := impl.Uses(given)
		spoil(given.List)
		if !slices.Equal(got, plainUses(l)) {
			t.Fatalf("what was answered of %v changes with its List", l)
		}
	}
}

// P21: a Line, its List and the room behind that stay, and that room changes no answer.
func TestLinesGivenStay(t *testing.T) {
	for _, l := range someLines() {
		_, is := plainLineRule(l)
		for _, filling := range []int64{0, 39, -1, 40} {
			given := l
			list, whole := inRoom(l.List, 5, filling)
			given.List = list
			kept := slices.Clone(whole)
			for range 2 {
				if impl.LineOk(given) != is || !slices.Equal(impl.Uses(given), plainUses(l)) || impl.Sets(given) != plainSets(l) {
					t.Fatalf("%v is another line with room behind its List", l)
				}
			}
			if !slices.Equal(whole, kept) || !sameLine(given, l) {
				t.Fatalf("the List of %v, or the room behind it, is another one: %v", l, whole)
			}
		}
	}
}

// linesInRoom is a copy of list with some lines behind it, each List with room of its own; and all of it.
func linesInRoom(list []impl.Line, behind ...impl.Line) ([]impl.Line, []impl.Line) {
	whole := append(copyOfLines(list), behind...)
	for i := range whole {
		whole[i].List, _ = inRoom(whole[i].List, 3, 40)
	}
	return whole[:len(list)], whole
}

// withTheRoom has each List with the room behind it.
func withTheRoom(list []impl.Line) []impl.Line {
	whole := slices.Clone(list)
	for i := range whole {
		whole[i].List = slices.Clone(whole[i].List[:cap(whole[i].List)])
	}
	return whole
}

// P21: lists of lines and the room behind them stay, and that room changes no answer.
func TestListsOfLinesGivenStay(t *testing.T) {
	maker := newLineMaker(93)
	for i := range 400 {
		list := maker.lines(1 + i%300)
		if wrong := wrongLines(); i%3 == 0 {
			list[maker.next(len(list))] = wrong[maker.next(len(wrong))]
		}
		is, boxes := plainLinesOk(list), plainBoxes(list)
		for _, behind := range [][]impl.Line{{lnGive(39), lnTrap()}, {{}, lnMove(39, 39), lnJump(299)}, {lnCall(40, -1, 40, 39, -1, 5)}} {
			given, whole := linesInRoom(list, behind...)
			kept := withTheRoom(whole)
			for range 2 {
				if impl.LinesOk(given) != is || impl.Boxes(given) != boxes {
					t.Fatalf("%v are others with room behind them", list)
				}
			}
			if !sameLines(withTheRoom(whole), kept) || !sameLines(given, list) {
				t.Fatalf("%v, or the room behind them, are others", list)
			}
		}
	}
	// What stands behind is not the last line, and is not there to be gone to.
	whole := []impl.Line{lnMove(1, 2), lnJump(2), lnGive(0), lnGive(39)}
	wantNoLines(t, whole[:1])
	wantNoLines(t, whole[:2])
	wantLines(t, whole[:3], 3)
	wantLines(t, whole, 40)
	wantNoLines(t, whole[:0])
	wantLines(t, whole[2:3], 1)
	wantNoLines(t, whole[1:2])
}

// Nothing is kept from call to call: whatever was asked between, the answer is the same.
func TestLinesAreTheirOwn(t *testing.T) {
	list := someLines()
	for i, l := range list {
		wantAsRuled(t, l)
		wantAsRuled(t, list[(i*7+3)%len(list)])
		wantAsListed(t, []impl.Line{l, list[(i*5+1)%len(list)], lnTrap()})
		wantAsRuled(t, l)
	}
}

// otherLine is l with one thing of it that is another number.
func (m *aLineMaker) otherLine(l impl.Line, numbers []int64) impl.Line {
	n := numbers[m.next(len(numbers))]
	switch m.next(7) {
	case 0:
		l.Kind = n
	case 1:
		l.D = n
	case 2:
		l.A = n
	case 3:
		l.B = n
	case 4:
		l.N = n
	case 5:
		l.List = append(slices.Clone(l.List), n)
	case 6:
		l.List = slices.Repeat([]int64{n}, m.next(6))
	}
	return l
}

// P21: whatever is given, each function answers, and answers as the rules by hand say.
func TestLinesAnswerAtEveryArgument(t *testing.T) {
	maker := newLineMaker(94)
	numbers := append(append(append(manyNumbers(), noKinds...), noBoxes...), 0, 1, 2, 3, 4, 5, 6, 7, 8, 9, 10, 11, 12, 38, 39, 254, 255, 298, 299, 300)
	right, wrong := 0, 0
	for i := range 60000 {
		l := maker.line(lineRules, 300)
		for range i % 4 {
			l = maker.otherLine(l, numbers)
		}
		if wantAsRuled(t, l) {
			right++
		} else {
			wrong++
		}
	}
	if right < 10000 || wrong < 10000 {
		t.Fatalf("%d are right, %d are not: too few to tell", right, wrong)
	}
	right, wrong = 0, 0
	for i := range 3000 {
		list := maker.lines(1 + maker.next(320))
		for range i % 3 {
			at := maker.next(len(list))
			list[at] = maker.otherLine(list[at], numbers)
		}
		if i%5 == 0 {
			list = list[:maker.next(len(list)+1)]
		}
		if wantAsListed(t, list) {
			right++
		} else {
			wrong++
		}
	}
	if right < 500 || wrong < 500 {
		t.Fatalf("%d lists are right, %d are not: too few to tell", right, wrong)
	}
}
