package tests

import (
	"slices"
	"testing"

	"loop.example/g00363/impl"
)

// someCrowds are made lists, some of them with more boxes than shelves, and some with a line that is not right.
func someCrowds(seed uint64, count int) [][]impl.Line {
	maker := newLineMaker(seed)
	wrong := wrongLines()
	lists := append(someFlows(seed+1, count/2), sets(0, 1, 2, 3, 4, 5, 0, 1, 2, 3, 4, 5), callsAheadOfAll(0, 1))
	for i := range count / 2 {
		list := maker.squeezing(2 + i%40)
		if i%7 == 0 {
			list[maker.next(len(list))] = wrong[maker.next(len(wrong))]
		}
		lists = append(lists, list)
	}
	return lists
}

// P21: what Homes answers is new memory each time, with the room behind it.
func TestHomesAreNewMemory(t *testing.T) {
	for _, list := range someCrowds(172, 300) {
		kept := copyOfLines(list)
		first, second := impl.Homes(list), impl.Homes(list)
		want := slices.Clone(second)
		spoil(first)
		spoil(first[:0])
		if !slices.Equal(second, want) || !slices.Equal(impl.Homes(list), want) {
			t.Fatalf("two answers share memory, of%s", showLines(kept))
		}
		spoil(second)
		spoil(second[:0])
		spoil(impl.Homes(list)[:0])
		if !sameLines(list, kept) {
			t.Fatalf("Homes answers what it was given: %s", showLines(kept))
		}
		wantAsHoused(t, list)
	}
}

// P21: what was answered stays as it is when the lines and their Lists are others.
func TestHomesStayWhenTheLinesChange(t *testing.T) {
	for _, list := range someCrowds(174, 300) {
		given := copyOfLines(list)
		got, want := impl.Homes(given), slices.Clone(impl.Homes(list))
		is := impl.HomesOk(given, got)
		spoilLines(given)
		if !slices.Equal(got, want) || is != plainLinesOk(list) {
			t.Fatalf("what was answered changes with the lines: %s", showLines(list))
		}
	}
}

// P21: lines, their Lists and the room behind them stay, and that room changes no answer.
func TestLinesOfHomesStay(t *testing.T) {
	for _, list := range someCrowds(176, 200) {
		for _, behind := range [][]impl.Line{{lnGive(39), lnTrap()}, {lnIf(38, 0), {}, lnMove(39, 39), lnJump(299)}, {lnCall(40, -1, 40, 39, -1, 5)}} {
			given, whole := linesInRoom(list, behind...)
			kept := withTheRoom(whole)
			for range 2 {
				if wantAsHoused(t, given) != plainLinesOk(list) {
					t.Fatalf("other lines with room behind them: %s", showLines(list))
				}
			}
			if !sameLines(withTheRoom(whole), kept) || !sameLines(given, list) {
				t.Fatalf("the lines, or the room behind them, are others: %s", showLines(list))
			}
		}
	}
}

// P21: homes that are asked of, and the room behind them, stay, and that room changes no answer.
func TestHomesGivenStay(t *testing.T) {
	for _, list := range someCrowds(178, 120) {
		right := impl.Homes(list)
		for _, homes := range append(slices.Clone(someHomes), right, upTo(100, 139), noHomes) {
			is, size := plainLinesOk(list) && plainHomesOk(impl.Spans(list), homes), plainCellarSize(homes)
			for _, filling := range []int64{-1, 0, 100, 163, 5, greatestInt} {
				given, whole := inRoom(homes, 41, filling)
				kept := slices.Clone(whole)
				for range 2 {
					if impl.HomesOk(list, given) != is || impl.CellarSize(given) != size {
						t.Fatalf("%v are others with %d behind them, of%s", homes, filling, showLines(list))
					}
				}
				if !slices.Equal(whole, kept) || !slices.Equal(given, homes) {
					t.Fatalf("%v, or the room behind them, are others, of%s", homes, showLines(list))
				}
			}
		}
	}
}

// What stands behind the list is not there: one cannot go to it, and its boxes have no home.
func TestHomesOfPiecesOfAList(t *testing.T) {
	whole := []impl.Line{lnMove(1, 2), lnJump(2), lnGive(0), lnGive(39), lnJump(1)}
	for from := range whole {
		for to := from; to <= len(whole); to++ {
			wantAsHoused(t, whole[from:to])
		}
	}
	wantNoHomes(t, whole[:2])
	wantHomes(t, whole[:3], asHomes(0, 1, 2))
	wantHomes(t, whole[2:3], asHomes(0))
	wantHomes(t, whole, homesBy(map[int64]int64{0: 0, 1: 1, 2: 2, 39: 1}))
}

// Lines may have one and the same List: it is to each as if it were its own.
func TestHomesOfListsThatAreShared(t *testing.T) {
	told := boxes(9, 4, 9)
	list := []impl.Line{lnCall(5, 0, told...), lnCall(9, 0, told...), lnCall(4, 0, told[:2]...), lnStore(4, 9, 0), lnTrap()}
	for range 2 {
		wantHomes(t, list, homesBy(map[int64]int64{4: 100, 5: 0, 9: 101}))
	}
	if !slices.Equal(told, boxes(9, 4, 9)) {
		t.Fatalf("the List has become %v", told)
	}
}

// Nothing is kept from call to call: whatever was asked between, the answer is the same.
func TestHomesAreTheirOwn(t *testing.T) {
	lists := someCrowds(180, 300)
	for i, list := range lists {
		wantAsHoused(t, list)
		wantAsHoused(t, lists[(i*7+3)%len(lists)])
		wantAsHoused(t, list)
	}
}

// Lists that just are not right have nothing, however near they are to it.
func TestHomesAtTheEdges(t *testing.T) {
	eachEdge(func(list []impl.Line, right bool) {
		if wantAsHoused(t, list) != right {
			t.Fatalf("right is %v, of%s", right, showLines(list))
		}
	})
}

// P21: whatever is given, each of the three answers, and answers as the plain homes are.
func TestHomesAnswerAtEveryArgument(t *testing.T) {
	maker := newLineMaker(182)
	numbers := append(append(append(manyNumbers(), noKinds...), noBoxes...), 0, 1, 2, 3, 4, 5, 6, 7, 8, 9, 10, 11, 12, 38, 39, 254, 255, 298, 299, 300)
	homes := append(append(allHomes(), noHomes...), numbers...)
	right, wrong := 0, 0
	for i := range 3000 {
		list := maker.flowing(1 + maker.next(12))
		for range i % 3 {
			at := maker.next(len(list))
			list[at] = maker.otherLine(list[at], numbers)
		}
		if i%5 == 0 {
			list = list[:maker.next(len(list)+1)]
		}
		is := wantAsHoused(t, list)
		right, wrong = right+int(flag(is)), wrong+int(flag(!is))
		var asked []int64
		for range maker.next(45) {
			asked = append(asked, homes[maker.next(len(homes))])
		}
		if got := impl.HomesOk(list, asked); got != (is && plainHomesOk(impl.Spans(list), asked)) || impl.CellarSize(asked) != plainCellarSize(asked) {
			t.Fatalf("HomesOk of %v is %v, CellarSize is %d, of%s", asked, got, impl.CellarSize(asked), showLines(list))
		}
	}
	if right < 700 || wrong < 700 {
		t.Fatalf("%d lists are right, %d are not: too few to tell", right, wrong)
	}
}
