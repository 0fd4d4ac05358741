package tests

import (
	"slices"
	"testing"

	"loop.example/g00363/impl"
)

// spoilSpans fills all there is of an answer, and the room behind it.
func spoilSpans(list []impl.Span) {
	list = append(list, impl.Span{})
	whole := list[:cap(list)]
	for i := range whole {
		whole[i] = impl.Span{Box: -77, From: -77, To: -77, Cross: true}
	}
}

// P21: what Spans answers is new memory each time, with the room behind it.
func TestSpansAreNewMemory(t *testing.T) {
	for _, list := range someFlows(148, 300) {
		kept := copyOfLines(list)
		first, second := impl.Spans(list), impl.Spans(list)
		want := slices.Clone(second)
		spoilSpans(first)
		spoilSpans(first[:0])
		if !slices.Equal(second, want) || !slices.Equal(impl.Spans(list), want) {
			t.Fatalf("two answers share memory, of%s", showLines(kept))
		}
		spoilSpans(second)
		spoilSpans(second[:0])
		spoilSpans(impl.Spans(list)[:0])
		if !sameLines(list, kept) {
			t.Fatalf("Spans answers what it was given: %s", showLines(kept))
		}
		wantAsSpanned(t, list)
	}
}

// P21: what was answered stays as it is when the lines and their Lists are others.
func TestSpansStayWhenTheLinesChange(t *testing.T) {
	for _, list := range someFlows(149, 300) {
		given := copyOfLines(list)
		got, want := impl.Spans(given), slices.Clone(impl.Spans(list))
		spoilLines(given)
		if !slices.Equal(got, want) {
			t.Fatalf("what was answered changes with the lines: %s", showLines(list))
		}
	}
}

// P21: lines, their Lists and the room behind them stay, and that room changes no answer.
func TestLinesOfSpansStay(t *testing.T) {
	for _, list := range someFlows(150, 250) {
		for _, behind := range [][]impl.Line{{lnGive(39), lnTrap()}, {lnIf(38, 0), {}, lnMove(39, 39), lnJump(299)}, {lnCall(40, -1, 40, 39, -1, 5)}} {
			given, whole := linesInRoom(list, behind...)
			kept := withTheRoom(whole)
			for range 2 {
				if wantAsSpanned(t, given) != plainLinesOk(list) {
					t.Fatalf("other lines with room behind them: %s", showLines(list))
				}
			}
			if !sameLines(withTheRoom(whole), kept) || !sameLines(given, list) {
				t.Fatalf("the lines, or the room behind them, are others: %s", showLines(list))
			}
		}
	}
}

// What stands behind the list is not there: one cannot go to it, and its boxes have no Span.
func TestSpansOfPiecesOfAList(t *testing.T) {
	whole := []impl.Line{lnMove(1, 2), lnJump(2), lnGive(0), lnGive(39), lnJump(1)}
	for from := range whole {
		for to := from; to <= len(whole); to++ {
			wantAsSpanned(t, whole[from:to])
		}
	}
	wantNoSpans(t, whole[:2])
	wantSpans(t, whole[:3], span(0, 0, 2), span(1, 0, 0), span(2, 0, 0))
	wantSpans(t, whole[2:3], span(0, 0, 0))
	wantSpans(t, whole, span(0, 0, 4), span(1, 0, 0), span(2, 0, 0), span(39, 3, 3))
}

// Lines may have one and the same List: it is to each as if it were its own.
func TestSpansOfListsThatAreShared(t *testing.T) {
	told := boxes(9, 4, 9)
	list := []impl.Line{lnCall(5, 0, told...), lnCall(9, 0, told...), lnCall(4, 0, told[:2]...), lnStore(4, 9, 0), lnTrap()}
	for range 2 {
		wantSpans(t, list, crossed(4, 0, 3), span(5, 0, 0), crossed(9, 0, 3))
	}
	if !slices.Equal(told, boxes(9, 4, 9)) {
		t.Fatalf("the List has become %v", told)
	}
}

// Nothing is kept from call to call: whatever was asked between, the answer is the same.
func TestSpansAreTheirOwn(t *testing.T) {
	lists := someFlows(151, 300)
	for i, list := range lists {
		wantAsSpanned(t, list)
		wantAsSpanned(t, lists[(i*7+3)%len(lists)])
		wantAsSpanned(t, list)
	}
}

// Lists that just are not right have nothing, however near they are to it.
func TestSpansAtTheEdges(t *testing.T) {
	eachEdge(func(list []impl.Line, right bool) {
		if wantAsSpanned(t, list) != right {
			t.Fatalf("right is %v, of%s", right, showLines(list))
		}
	})
}

// P21: whatever is given, each of the two answers, and answers as the plain Spans are.
func TestSpansAnswerAtEveryArgument(t *testing.T) {
	maker := newLineMaker(152)
	numbers := append(append(append(manyNumbers(), noKinds...), noBoxes...), 0, 1, 2, 3, 4, 5, 6, 7, 8, 9, 10, 11, 12, 38, 39, 254, 255, 298, 299, 300)
	right, wrong := 0, 0
	for i := range 3000 {
		list := maker.flowing(1 + maker.next(12))
		for range i % 3 {
			at := maker.next(len(list))
			list[at] = maker.otherLine(list[at], numbers)
		}
		if i%5 == 0 {
			list = list[:maker.next(len(list)+1)]
		}
		if wantAsSpanned(t, list) {
			right++
		} else {
			wrong++
		}
	}
	if right < 700 || wrong < 700 {
		t.Fatalf("%d lists are right, %d are not: too few to tell", right, wrong)
	}
}

// P21: Meet answers whatever numbers it is given.
func TestMeetAnswersAtEveryArgument(t *testing.T) {
	maker := newBodyMaker(153)
	numbers := append(manyNumbers(), leastInt, greatestInt, 0, 1, 2, 3, 4, 5, 298, 299, 300)
	number := func() int64 { return numbers[maker.next(len(numbers))] }
	meet := 0
	for range 200000 {
		a := impl.Span{Box: number(), From: number(), To: number(), Cross: maker.next(2) == 0}
		b := impl.Span{Box: number(), From: number(), To: number(), Cross: maker.next(2) == 0}
		want := plainMeet(a, b)
		if impl.Meet(a, b) != want || impl.Meet(b, a) != want {
			t.Fatalf("Meet(%v, %v) is not %v", a, b, want)
		}
		meet += int(flag(want))
	}
	if meet < 5000 {
		t.Fatalf("%d meet: too few to tell", meet)
	}
}
