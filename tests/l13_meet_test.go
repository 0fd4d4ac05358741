package tests

import (
	"slices"
	"testing"

	"loop.example/g00363/impl"
)

// wantMeet asks both ways round; neither Box nor Cross counts.
func wantMeet(t *testing.T, a, b impl.Span, want bool) {
	t.Helper()
	for _, box := range []int64{a.Box, 0, 7, b.Box, -1, greatestInt, leastInt} {
		for _, cross := range []bool{false, true} {
			a.Box, a.Cross = box, cross
			if got, back := impl.Meet(a, b), impl.Meet(b, a); got != want || back != want {
				t.Fatalf("Meet(%v, %v) is %v, %v the other way round, not %v", a, b, got, back, want)
			}
		}
	}
}

func TestMeetByHand(t *testing.T) {
	// Apart.
	wantMeet(t, span(0, 0, 3), span(1, 4, 9), false)
	wantMeet(t, span(0, 0, 3), span(1, 5, 5), false)
	wantMeet(t, span(0, 2, 2), span(1, 3, 3), false)
	wantMeet(t, span(0, 0, 0), span(1, 299, 299), false)
	// They touch in one line.
	wantMeet(t, span(0, 0, 4), span(1, 4, 9), true)
	wantMeet(t, span(0, 4, 4), span(1, 4, 9), true)
	wantMeet(t, span(0, 9, 9), span(1, 4, 9), true)
	wantMeet(t, span(0, 0, 0), span(1, 0, 299), true)
	wantMeet(t, span(0, 299, 299), span(1, 0, 299), true)
	// More lines of both.
	wantMeet(t, span(0, 0, 6), span(1, 4, 9), true)
	// One is within the other, at its ends or not.
	wantMeet(t, span(0, 5, 6), span(1, 4, 9), true)
	wantMeet(t, span(0, 6, 6), span(1, 4, 9), true)
	wantMeet(t, span(0, 4, 8), span(1, 4, 9), true)
	wantMeet(t, span(0, 5, 9), span(1, 4, 9), true)
	// The same lines, and the very same one.
	wantMeet(t, span(0, 4, 9), span(1, 4, 9), true)
	wantMeet(t, span(3, 4, 9), span(3, 4, 9), true)
	wantMeet(t, crossed(3, 4, 4), crossed(3, 4, 4), true)
	wantMeet(t, impl.Span{}, impl.Span{}, true)
}

// There is no line in one whose To is below its From: it meets none, not even itself, nor one that has all lines.
func TestMeetOfNoLines(t *testing.T) {
	for _, none := range []impl.Span{span(0, 5, 4), span(0, 9, 0), span(0, 0, -1), span(0, 299, 298), span(0, greatestInt, leastInt), span(0, greatestInt, greatestInt-1), span(0, leastInt+1, leastInt), span(0, 1, leastInt), span(0, greatestInt, -1)} {
		wantMeet(t, none, none, false)
		for _, other := range []impl.Span{span(1, 0, 9), span(1, 4, 4), span(1, 5, 5), span(1, 4, 5), span(1, 0, 299), span(1, leastInt, greatestInt), span(1, 7, 2), span(1, 5, 4), span(1, 0, 0), span(1, greatestInt, greatestInt), span(1, leastInt, leastInt)} {
			wantMeet(t, none, other, false)
		}
	}
}

// plainMeet looks for a line that is in both; where there is any, the From of one of them is such a line.
func plainMeet(a, b impl.Span) bool {
	return slices.ContainsFunc([]int64{a.From, b.From}, func(at int64) bool {
		return a.From <= at && at <= a.To && b.From <= at && at <= b.To
	})
}

// All small Spans, those that have no line among them.
func TestMeetOfSmallSpans(t *testing.T) {
	for number := range 7 * 7 * 7 * 7 {
		end := func(place int) int64 { return int64(number/place%7) - 1 }
		a, b := span(0, end(1), end(7)), span(1, end(49), end(343))
		both := false
		for at := int64(-2); at <= 6; at++ {
			both = both || a.From <= at && at <= a.To && b.From <= at && at <= b.To
		}
		if plainMeet(a, b) != both {
			t.Fatalf("the plain count says %v of %v and %v", !both, a, b)
		}
		wantMeet(t, a, b, both)
	}
}

// Ends of 64 bits, at both ends.
func TestMeetOfGreatNumbers(t *testing.T) {
	wantMeet(t, span(0, leastInt, greatestInt), span(1, 0, 0), true)
	wantMeet(t, span(0, leastInt, greatestInt), span(1, leastInt, greatestInt), true)
	wantMeet(t, span(0, leastInt, -1), span(1, 0, greatestInt), false)
	wantMeet(t, span(0, leastInt, leastInt), span(1, greatestInt, greatestInt), false)
	wantMeet(t, span(0, leastInt, leastInt), span(1, leastInt, greatestInt), true)
	wantMeet(t, span(0, greatestInt, greatestInt), span(1, leastInt, greatestInt), true)
	wantMeet(t, span(0, greatestInt-1, greatestInt), span(1, leastInt, greatestInt-2), false)
	wantMeet(t, span(0, 4294967296, 4294967300), span(1, 0, 4), false)
	ends := []int64{leastInt, leastInt + 1, -4294967296, -2, -1, 0, 1, 299, 300, 4294967295, 4294967296, greatestInt - 1, greatestInt}
	for _, from := range ends {
		for _, to := range ends {
			for _, otherFrom := range ends {
				for _, otherTo := range ends {
					a, b := span(0, from, to), span(1, otherFrom, otherTo)
					wantMeet(t, a, b, plainMeet(a, b))
				}
			}
		}
	}
}

// Of the Spans of one list those meet that have one of its lines in common.
func TestMeetOfSpansOfALine(t *testing.T) {
	maker := newLineMaker(146)
	apart, together := 0, 0
	for i := range 200 {
		list := maker.flowing(1 + i%40)
		if i%2 == 0 {
			list = maker.lines(1 + i%40)
		}
		spans := impl.Spans(list)
		for _, a := range spans {
			for _, b := range spans {
				both := slices.Contains(plainCounts([]impl.Span{a, b}, len(list)), 2)
				if impl.Meet(a, b) != both {
					t.Fatalf("Meet(%v, %v) is %v, of%s", a, b, !both, showLines(list))
				}
				together += int(flag(both))
				apart += int(flag(!both))
			}
		}
	}
	if apart < 2000 || together < 2000 {
		t.Fatalf("%d are apart, %d meet: too few to tell", apart, together)
	}
}

func wantPressed(t *testing.T, list []impl.Line, want int64) {
	t.Helper()
	if got := impl.Pressure(list); got != want {
		t.Fatalf("Pressure is %d, not %d, of%s", got, want, showLines(list))
	}
	if !wantAsSpanned(t, list) {
		t.Fatalf("the rules by hand say no to%s", showLines(list))
	}
}

func TestPressureByHand(t *testing.T) {
	// There are no Spans.
	wantPressed(t, []impl.Line{lnTrap()}, 0)
	wantPressed(t, []impl.Line{lnJump(0)}, 0)
	wantPressed(t, slices.Repeat([]impl.Line{lnTrap()}, 300), 0)
	// One.
	wantPressed(t, []impl.Line{lnGive(0)}, 1)
	wantPressed(t, []impl.Line{lnGive(39)}, 1)
	wantPressed(t, []impl.Line{lnSet(39, 1), lnTrap()}, 1)
	wantPressed(t, append(slices.Repeat([]impl.Line{lnMove(3, 3)}, 299), lnGive(3)), 1)
	// One after the other, however many: no two have a line in common.
	wantPressed(t, []impl.Line{lnSet(1, 1), lnSet(2, 1), lnSet(3, 1), lnTrap()}, 1)
	wantPressed(t, []impl.Line{lnGive(1), lnGive(2), lnGive(3), lnGive(4)}, 1)
	// Two that touch in one line.
	wantPressed(t, []impl.Line{lnMove(2, 1), lnMove(3, 2), lnMove(4, 3), lnGive(4)}, 2)
	// What stands between the ends counts, too.
	wantPressed(t, []impl.Line{lnSet(0, 5), lnSet(1, 1), lnSet(2, 2), lnIf(2, 4), lnBin(0, 0, 1, 1), lnGive(0)}, 3)
	// The greatest number, not the last or the first one.
	wantPressed(t, []impl.Line{lnBin(0, 1, 2, 1), lnGive(0), lnStore(3, 4, 0), lnTrap()}, 3)
	wantPressed(t, []impl.Line{lnStore(3, 4, 0), lnTrap(), lnBin(0, 1, 2, 1), lnGive(0)}, 3)
	wantPressed(t, []impl.Line{lnJump(3), lnBin(0, 1, 2, 1), lnGive(0), lnStore(3, 4, 0), lnTrap()}, 5)
}

// Pressure counts Spans, not boxes that are wanted: at line 2 nobody wants box 1, yet its Span has that line.
func TestPressureOfLinesAtWhichABoxIsNotWanted(t *testing.T) {
	wantPressed(t, []impl.Line{lnStore(1, 1, 0), lnSet(2, 7), lnStore(2, 2, 0), lnMove(1, 0), lnGive(0)}, 3)
	wantPressed(t, []impl.Line{lnSet(1, 1), lnSet(2, 1), lnSet(3, 1), lnSet(3, 1), lnSet(2, 1), lnSet(1, 1), lnTrap()}, 3)
}

// Many at one line, at the first, at the last, and in the middle.
func TestPressureOfManyAtOneLine(t *testing.T) {
	for many := int64(2); many <= 40; many += 2 {
		var sets, uses []impl.Line
		for box := range many {
			sets = append(sets, lnSet(box, 1))
		}
		for box := int64(0); box < many; box += 2 {
			uses = append(uses, lnStore(box, box+1, 0))
		}
		// At the first line alone: behind each line fewer are wanted.
		wantPressed(t, append(slices.Clone(uses), lnTrap()), many)
		// Where all are set, and none is used.
		wantPressed(t, slices.Concat(sets, uses, []impl.Line{lnTrap()}), many)
		wantPressed(t, slices.Concat(sets, []impl.Line{lnTrap()}, uses, []impl.Line{lnTrap()}), many)
		// The last line goes back to the one at which all of them are wanted, so it has as many.
		wantPressed(t, slices.Concat(sets, uses, []impl.Line{lnJump(many)}), many)
		wantPressed(t, append(slices.Clone(uses), lnJump(0)), many)
		counts := plainCounts(impl.Spans(slices.Concat(sets, uses, []impl.Line{lnJump(many)})), int(many+many/2+1))
		if counts[len(counts)-1] != many || counts[0] != 1 {
			t.Fatalf("%v are at the lines, and not %d at the last one", counts, many)
		}
	}
}

// The last line may be the only one that has so many: nobody comes to it.
func TestPressureAtTheLastLineAlone(t *testing.T) {
	for _, rows := range someRows {
		wantPressed(t, append(slices.Repeat([]impl.Line{lnTrap()}, int(rows)-1), lnGive(5)), 1)
	}
	// The line ahead of the last one.
	wantPressed(t, []impl.Line{lnSet(1, 1), lnSet(2, 2), lnSet(3, 3), lnCall(4, 0, 1, 2, 3), lnGive(4)}, 4)
	wantPressed(t, []impl.Line{lnCall(4, 0, 1, 2, 3), lnGive(4)}, 4)
	wantPressed(t, []impl.Line{lnCall(3, 0, 1, 2, 3), lnGive(3)}, 3)
}

// Lists as long as may be, with all boxes.
func TestPressureOfAllBoxes(t *testing.T) {
	for _, rows := range []int64{41, 42, 100, 299, 300} {
		list := slices.Repeat([]impl.Line{lnTrap()}, int(rows))
		for box := range int64(40) {
			list[box] = lnSet(box, 1)
			list[rows-2-box] = lnSet(box, 1)
		}
		wantAsSpanned(t, list)
		if got := impl.Pressure(list); rows >= 100 && got != 40 {
			t.Fatalf("Pressure of all boxes is %d, of %d lines", got, rows)
		}
	}
}

// Of many made lists it is the greatest of the counts of all lines.
func TestPressureOfManyLines(t *testing.T) {
	maker := newLineMaker(147)
	sizes := map[int64]int{}
	for i := range 1500 {
		list := maker.flowing(1 + i%60)
		if i%3 == 0 {
			list = maker.lines(1 + i%60)
		}
		wantPressure(t, list, impl.Spans(list))
		sizes[impl.Pressure(list)/5]++
	}
	for size := range int64(7) {
		if sizes[size] < 15 {
			t.Fatalf("%v: too few to tell", sizes)
		}
	}
}
