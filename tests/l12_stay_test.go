package tests

import (
	"slices"
	"testing"

	"loop.example/g00363/impl"
)

// someFlows are made lists, short and long, some of them with a line that is not right.
func someFlows(seed uint64, count int) [][]impl.Line {
	maker := newLineMaker(seed)
	wrong := wrongLines()
	lists := [][]impl.Line{nil, {lnGive(7)}, {lnCall(1, 0, 5, 2, 5), lnIf(1, 0), lnGive(1)}, manyMoves(300), manyMoves(301)}
	for i := range count {
		list := maker.flowing(1 + i%30)
		if i%4 == 0 {
			list = maker.lines(1 + i%30)
		}
		if i%7 == 0 {
			list[maker.next(len(list))] = wrong[maker.next(len(wrong))]
		}
		lists = append(lists, list)
	}
	return lists
}

// someOf are places at which a list is asked, of which some are none.
func someOf(list []impl.Line) []int64 {
	count := int64(len(list))
	return append(placesAmong(count), -1, count, count+1)
}

// flowAsks are the four functions, each as one that is asked of a line.
var flowAsks = []func([]impl.Line, int64) []int64{
	impl.Nexts, impl.LiveIn, impl.LiveOut, func(list []impl.Line, _ int64) []int64 { return impl.Leaders(list) },
}

// P21: what the four answer is new memory each time: no line is in it, no List, and no other answer.
func TestFlowsAreNewMemory(t *testing.T) {
	for _, list := range someFlows(130, 120) {
		kept := copyOfLines(list)
		for _, at := range someOf(list) {
			for i, ask := range flowAsks {
				first, second := ask(list, at), ask(list, at)
				want := slices.Clone(second)
				spoil(first)
				if !slices.Equal(second, want) || !slices.Equal(ask(list, at), want) {
					t.Fatalf("two answers of function %d at %d share memory, of%s", i, at, showLines(kept))
				}
				spoil(second)
				spoil(ask(list, at)[:0])
				if !sameLines(list, kept) {
					t.Fatalf("function %d at %d answers what it was given: %s", i, at, showLines(kept))
				}
			}
		}
		wantAsFlows(t, list)
	}
}

// P21: no two answers of one list share any memory, whichever lines they are of.
func TestFlowsShareNoMemory(t *testing.T) {
	for _, list := range someFlows(131, 60) {
		want, is := plainFlow(list)
		if !is {
			continue
		}
		var answers, wanted [][]int64
		for at := range list {
			answers = append(answers, impl.Nexts(list, int64(at)), impl.LiveIn(list, int64(at)), impl.LiveOut(list, int64(at)))
			wanted = append(wanted, want.nexts[at], want.ahead[at], want.behind[at])
		}
		answers, wanted = append(answers, impl.Leaders(list)), append(wanted, want.leaders)
		for i, answer := range answers {
			if !slices.Equal(answer, wanted[i]) {
				t.Fatalf("answer %d shares memory with one ahead of it, of%s", i, showLines(list))
			}
			spoil(answer)
		}
	}
}

// P21: what was answered stays as it is when the lines and their Lists are others.
func TestFlowsStayWhenTheLinesChange(t *testing.T) {
	for _, list := range someFlows(132, 200) {
		for _, at := range someOf(list) {
			for i, ask := range flowAsks {
				given := copyOfLines(list)
				got, want := ask(given, at), slices.Clone(ask(list, at))
				spoilLines(given)
				if !slices.Equal(got, want) {
					t.Fatalf("what function %d answered at %d changes with the lines: %s", i, at, showLines(list))
				}
			}
		}
	}
}

// P21: lines, their Lists and the room behind them stay, and that room changes no answer.
func TestLinesLookedOverStay(t *testing.T) {
	for _, list := range someFlows(133, 150) {
		for _, behind := range [][]impl.Line{{lnGive(39), lnTrap()}, {lnIf(38, 0), {}, lnMove(39, 39), lnJump(299)}, {lnCall(40, -1, 40, 39, -1, 5)}} {
			given, whole := linesInRoom(list, behind...)
			kept := withTheRoom(whole)
			for range 2 {
				if wantAsFlows(t, given) != plainLinesOk(list) {
					t.Fatalf("other lines with room behind them: %s", showLines(list))
				}
			}
			if !sameLines(withTheRoom(whole), kept) || !sameLines(given, list) {
				t.Fatalf("the lines, or the room behind them, are others: %s", showLines(list))
			}
		}
	}
}

// What stands behind the list is not there: one cannot go to it, and it asks for nothing.
func TestFlowOfPiecesOfAList(t *testing.T) {
	whole := []impl.Line{lnMove(1, 2), lnJump(2), lnGive(0), lnGive(39), lnJump(1)}
	for from := range whole {
		for to := from; to <= len(whole); to++ {
			piece := whole[from:to]
			want, is := plainFlow(slices.Clone(piece))
			if is {
				wantFlow(t, piece, want)
			} else {
				wantNoFlow(t, piece)
			}
		}
	}
	wantNoFlow(t, whole[:2])
	wantLeaders(t, whole[:3], 0, 2)
	wantLeaders(t, whole, 0, 1, 2, 3, 4)
	wantNexts(t, whole[:3], 2)
	wantNexts(t, whole[:3], 3)
	wantNexts(t, whole, 4, 1)
}

// Lines may have one and the same List: it is to each as if it were its own.
func TestFlowOfListsThatAreShared(t *testing.T) {
	told := boxes(9, 4, 9)
	list := []impl.Line{lnCall(4, 0, told...), lnCall(9, 0, told...), lnCall(4, 0, told[:2]...), lnStore(4, 9, 0), lnTrap()}
	for range 2 {
		wantLive(t, aLive{list[0], boxes(4, 9), boxes(4, 9)}, aLive{list[1], boxes(4, 9), boxes(4, 9)}, aLive{list[2], boxes(4, 9), boxes(4, 9)}, aLive{list[3], boxes(4, 9), nil}, aLive{list[4], nil, nil})
	}
	if !slices.Equal(told, boxes(9, 4, 9)) {
		t.Fatalf("the List has become %v", told)
	}
}

// Nothing is kept from call to call: whatever was asked between, the answer is the same.
func TestFlowsAreTheirOwn(t *testing.T) {
	lists := someFlows(134, 120)
	for i, list := range lists {
		wantAsFlows(t, list)
		wantAsFlows(t, lists[(i*7+3)%len(lists)])
		wantAsFlows(t, list)
	}
}

// Lists that just are not right have nothing, however near they are to it.
func TestFlowAtTheEdges(t *testing.T) {
	eachEdge(func(list []impl.Line, right bool) {
		if wantAsFlows(t, list) != right {
			t.Fatalf("right is %v, of%s", right, showLines(list))
		}
	})
}

// P21: whatever is given, each of the four answers, and answers as the plain flow does.
func TestFlowAnswersAtEveryArgument(t *testing.T) {
	maker := newLineMaker(135)
	numbers := append(append(append(manyNumbers(), noKinds...), noBoxes...), 0, 1, 2, 3, 4, 5, 6, 7, 8, 9, 10, 11, 12, 38, 39, 254, 255, 298, 299, 300)
	right, wrong := 0, 0
	for i := range 3000 {
		list := maker.flowing(1 + maker.next(12))
		for range i % 3 {
			at := maker.next(len(list))
			list[at] = maker.otherLine(list[at], numbers)
		}
		if i%5 == 0 {
			list = list[:maker.next(len(list)+1)]
		}
		if wantAsFlows(t, list) {
			right++
		} else {
			wrong++
		}
		if at := numbers[maker.next(len(numbers))]; at < 0 || at >= int64(len(list)) {
			wantNoFlowAt(t, list, at)
		}
	}
	if right < 700 || wrong < 700 {
		t.Fatalf("%d lists are right, %d are not: too few to tell", right, wrong)
	}
}
