package tests

import (
	"slices"
	"testing"

	"loop.example/g00363/impl"
)

// aLive is a line with what is wanted ahead of it and behind it, by hand.
type aLive struct {
	line          impl.Line
	ahead, behind []int64
}

func boxes(list ...int64) []int64 { return list }

// upTo are all boxes from the first to the last.
func upTo(first, last int64) []int64 {
	var list []int64
	for box := first; box <= last; box++ {
		list = append(list, box)
	}
	return list
}

func wantLive(t *testing.T, lives ...aLive) {
	t.Helper()
	var list []impl.Line
	for _, l := range lives {
		list = append(list, l.line)
	}
	for at, l := range lives {
		if got := impl.LiveIn(list, int64(at)); !slices.Equal(got, l.ahead) {
			t.Fatalf("LiveIn of line %d is %v, not %v, of%s", at, got, l.ahead, showLines(list))
		}
		if got := impl.LiveOut(list, int64(at)); !slices.Equal(got, l.behind) {
			t.Fatalf("LiveOut of line %d is %v, not %v, of%s", at, got, l.behind, showLines(list))
		}
	}
	wantAsFlows(t, list)
	wantP12(t, list)
}

func TestLiveByHand(t *testing.T) {
	wantLive(t, aLive{lnGive(0), boxes(0), nil})
	wantLive(t, aLive{lnGive(39), boxes(39), nil})
	wantLive(t, aLive{lnTrap(), nil, nil})
	wantLive(t,
		aLive{lnSet(0, 5), nil, boxes(0)},
		aLive{lnSet(1, 1), boxes(0), boxes(0, 1)},
		aLive{lnSet(2, 2), boxes(0, 1), boxes(0, 1, 2)},
		aLive{lnIf(2, 4), boxes(0, 1, 2), boxes(0, 1)},
		aLive{lnBin(0, 0, 1, impl.BoAdd), boxes(0, 1), boxes(0)},
		aLive{lnGive(0), boxes(0), nil},
	)
	wantLive(t,
		aLive{lnLoad(3, 1, 8), boxes(0, 1, 2), boxes(0, 2, 3)},
		aLive{lnStore(2, 3, 4), boxes(0, 2, 3), boxes(0)},
		aLive{lnCall(5, 1, 0), boxes(0), boxes(5)},
		aLive{lnMove(4, 5), boxes(5), boxes(4)},
		aLive{lnZero(1, 4), boxes(4), boxes(1)},
		aLive{lnGive(1), boxes(1), nil},
	)
	// They are told rising, however they are come by.
	wantLive(t,
		aLive{lnCall(9, 0, 38, 20, 29), boxes(1, 7, 20, 29, 38, 39), boxes(1, 7, 9, 39)},
		aLive{lnStore(39, 1, 0), boxes(1, 7, 9, 39), boxes(7, 9)},
		aLive{lnBin(0, 9, 7, 2), boxes(7, 9), boxes(0)},
		aLive{lnGive(0), boxes(0), nil},
	)
}

// What is set is not wanted ahead, unless the same line uses it.
func TestLiveOfWhatIsSet(t *testing.T) {
	wantLive(t, aLive{lnSet(3, 1), nil, boxes(3)}, aLive{lnGive(3), boxes(3), nil})
	wantLive(t, aLive{lnMove(3, 4), boxes(4), boxes(3)}, aLive{lnGive(3), boxes(3), nil})
	wantLive(t, aLive{lnMove(3, 3), boxes(3), boxes(3)}, aLive{lnGive(3), boxes(3), nil})
	wantLive(t, aLive{lnZero(3, 3), boxes(3), boxes(3)}, aLive{lnGive(3), boxes(3), nil})
	wantLive(t, aLive{lnBin(3, 3, 4, 1), boxes(3, 4), boxes(3)}, aLive{lnGive(3), boxes(3), nil})
	wantLive(t, aLive{lnBin(3, 4, 3, 1), boxes(3, 4), boxes(3)}, aLive{lnGive(3), boxes(3), nil})
	wantLive(t, aLive{lnBin(3, 3, 3, 1), boxes(3), boxes(3)}, aLive{lnGive(3), boxes(3), nil})
	wantLive(t, aLive{lnLoad(3, 3, 0), boxes(3), boxes(3)}, aLive{lnGive(3), boxes(3), nil})
	wantLive(t, aLive{lnCall(3, 0, 4, 3), boxes(3, 4), boxes(3)}, aLive{lnGive(3), boxes(3), nil})
	// Nobody uses it behind: it is not wanted, though it is set, and what it is made of is wanted all the same.
	wantLive(t, aLive{lnSet(3, 1), nil, nil}, aLive{lnTrap(), nil, nil})
	wantLive(t, aLive{lnSet(3, 1), boxes(4), boxes(4)}, aLive{lnGive(4), boxes(4), nil})
	wantLive(t, aLive{lnMove(3, 5), boxes(4, 5), boxes(4)}, aLive{lnGive(4), boxes(4), nil})
	wantLive(t, aLive{lnZero(3, 3), boxes(3, 4), boxes(4)}, aLive{lnGive(4), boxes(4), nil})
	wantLive(t, aLive{lnCall(3, 0, 3), boxes(3), nil}, aLive{lnTrap(), nil, nil})
	// Set again ahead of being used: the first one is not wanted.
	wantLive(t, aLive{lnSet(3, 1), nil, nil}, aLive{lnSet(3, 2), nil, boxes(3)}, aLive{lnGive(3), boxes(3), nil})
	wantLive(t, aLive{lnMove(3, 6), boxes(6), boxes(6)}, aLive{lnMove(3, 6), boxes(6), boxes(3)}, aLive{lnGive(3), boxes(3), nil})
	// A line that sets nothing leaves what is wanted behind it.
	wantLive(t, aLive{lnStore(0, 1, 0), boxes(0, 1, 3), boxes(0, 1, 3)}, aLive{lnStore(1, 0, 0), boxes(0, 1, 3), boxes(3)}, aLive{lnGive(3), boxes(3), nil})
	wantLive(t, aLive{lnStore(0, 0, 0), boxes(0), boxes(0)}, aLive{lnGive(0), boxes(0), nil})
}

// A box that is told more than once is wanted once.
func TestLiveOfCalls(t *testing.T) {
	wantLive(t, aLive{lnCall(4, 0, 7, 7), boxes(7), boxes(4)}, aLive{lnGive(4), boxes(4), nil})
	wantLive(t, aLive{lnCall(4, 0, 9, 2, 9), boxes(2, 9), boxes(4)}, aLive{lnGive(4), boxes(4), nil})
	wantLive(t, aLive{lnCall(9, 3, 9, 9, 9), boxes(9), boxes(9)}, aLive{lnGive(9), boxes(9), nil})
	wantLive(t, aLive{lnCall(4, 1, 9, 2, 9), boxes(2, 9), boxes(2, 4, 9)}, aLive{lnCall(9, 2, 4, 9, 2), boxes(2, 4, 9), boxes(4, 9)}, aLive{lnCall(9, 3, 4, 4, 9), boxes(4, 9), boxes(9)}, aLive{lnGive(9), boxes(9), nil})
	wantLive(t, aLive{lnCall(4, 0), nil, boxes(4)}, aLive{lnGive(4), boxes(4), nil})
	wantLive(t, aLive{lnCall(4, 3), boxes(5), boxes(5)}, aLive{lnGive(5), boxes(5), nil})
	wantLive(t, aLive{lnCall(0, 0, 39, 0, 38), boxes(0, 38, 39), boxes(0)}, aLive{lnGive(0), boxes(0), nil})
}

// Both ways behind an LnIf count, and one of them is enough.
func TestLiveOfBothWays(t *testing.T) {
	wantLive(t, aLive{lnIf(0, 2), boxes(0, 1, 2), boxes(1, 2)}, aLive{lnGive(1), boxes(1), nil}, aLive{lnGive(2), boxes(2), nil})
	wantLive(t, aLive{lnIf(0, 2), boxes(0, 1), boxes(1)}, aLive{lnGive(1), boxes(1), nil}, aLive{lnTrap(), nil, nil})
	wantLive(t, aLive{lnIf(0, 2), boxes(0, 2), boxes(2)}, aLive{lnTrap(), nil, nil}, aLive{lnGive(2), boxes(2), nil})
	wantLive(t, aLive{lnIf(0, 2), boxes(0), nil}, aLive{lnTrap(), nil, nil}, aLive{lnTrap(), nil, nil})
	// Both the same.
	wantLive(t, aLive{lnIf(0, 1), boxes(0, 1), boxes(1)}, aLive{lnGive(1), boxes(1), nil})
	wantLive(t, aLive{lnIf(0, 1), boxes(0), boxes(0)}, aLive{lnGive(0), boxes(0), nil})
	// Set on one way only, it is wanted by the other one; set on both, by none.
	wantLive(t, aLive{lnIf(0, 2), boxes(0, 1), boxes(1)}, aLive{lnSet(1, 5), nil, boxes(1)}, aLive{lnGive(1), boxes(1), nil})
	wantLive(t, aLive{lnIf(0, 3), boxes(0), nil}, aLive{lnSet(1, 5), nil, boxes(1)}, aLive{lnJump(4), boxes(1), boxes(1)}, aLive{lnSet(1, 6), nil, boxes(1)}, aLive{lnGive(1), boxes(1), nil})
	// A line that is jumped over asks for nothing.
	wantLive(t, aLive{lnJump(2), boxes(4), boxes(4)}, aLive{lnMove(4, 6), boxes(6), boxes(4)}, aLive{lnGive(4), boxes(4), nil})
}

func TestLiveInLoopsOfOneLine(t *testing.T) {
	wantLive(t, aLive{lnJump(0), nil, nil})
	wantLive(t, aLive{lnIf(0, 0), boxes(0), boxes(0)}, aLive{lnTrap(), nil, nil})
	wantLive(t, aLive{lnIf(0, 0), boxes(0, 1), boxes(0, 1)}, aLive{lnGive(1), boxes(1), nil})
	wantLive(t, aLive{lnMove(3, 4), boxes(4), nil}, aLive{lnJump(1), nil, nil})
	wantLive(t, aLive{lnJump(2), boxes(7), boxes(7)}, aLive{lnJump(1), nil, nil}, aLive{lnGive(7), boxes(7), nil})
}

// What is wanted goes round: the last line is ahead of the first one, too.
func TestLiveInLoopsOfManyLines(t *testing.T) {
	wantLive(t,
		aLive{lnSet(1, 0), boxes(0), boxes(0, 1)},
		aLive{lnBin(1, 1, 0, 1), boxes(0, 1), boxes(0, 1)},
		aLive{lnSet(2, 1), boxes(0, 1), boxes(0, 1, 2)},
		aLive{lnBin(0, 0, 2, 2), boxes(0, 1, 2), boxes(0, 1)},
		aLive{lnIf(0, 1), boxes(0, 1), boxes(0, 1)},
		aLive{lnGive(1), boxes(1), nil},
	)
	// It never ends: what is used in it is wanted all round, unless it is set in it first.
	wantLive(t, aLive{lnStore(3, 4, 0), boxes(3, 4), boxes(3, 4)}, aLive{lnSet(5, 0), boxes(3, 4), boxes(3, 4)}, aLive{lnJump(0), boxes(3, 4), boxes(3, 4)})
	wantLive(t, aLive{lnSet(3, 9), boxes(4), boxes(3, 4)}, aLive{lnStore(3, 4, 0), boxes(3, 4), boxes(4)}, aLive{lnJump(0), boxes(4), boxes(4)})
	wantLive(t, aLive{lnStore(3, 4, 0), boxes(3, 4), boxes(4)}, aLive{lnSet(3, 9), boxes(4), boxes(3, 4)}, aLive{lnJump(0), boxes(3, 4), boxes(3, 4)})
	// Two into one another, with what is wanted behind both.
	wantLive(t,
		aLive{lnMove(2, 0), boxes(0, 1, 3, 4), boxes(0, 1, 2, 3, 4)},
		aLive{lnBin(2, 2, 3, 2), boxes(0, 1, 2, 3, 4), boxes(0, 1, 2, 3, 4)},
		aLive{lnIf(2, 1), boxes(0, 1, 2, 3, 4), boxes(0, 1, 2, 3, 4)},
		aLive{lnBin(1, 1, 3, 2), boxes(0, 1, 3, 4), boxes(0, 1, 3, 4)},
		aLive{lnIf(1, 0), boxes(0, 1, 3, 4), boxes(0, 1, 3, 4)},
		aLive{lnGive(4), boxes(4), nil},
	)
	// Three, each of which wants one box of its own, that goes round all that are around it.
	wantLive(t,
		aLive{lnSet(9, 0), boxes(0, 1, 2), boxes(0, 1, 2)},
		aLive{lnSet(9, 1), boxes(0, 1, 2), boxes(0, 1, 2)},
		aLive{lnSet(9, 2), boxes(0, 1, 2), boxes(0, 1, 2)},
		aLive{lnIf(2, 2), boxes(0, 1, 2), boxes(0, 1, 2)},
		aLive{lnIf(1, 1), boxes(0, 1, 2), boxes(0, 1, 2)},
		aLive{lnIf(0, 0), boxes(0, 1, 2), boxes(0, 1, 2)},
		aLive{lnTrap(), nil, nil},
	)
}

// As few as can be so: of a box that a loop hands round, and nobody uses or sets, nobody wants anything.
func TestLiveOfLoopsThatWantOfThemselves(t *testing.T) {
	wantLive(t, aLive{lnJump(1), nil, nil}, aLive{lnJump(0), nil, nil})
	wantLive(t, aLive{lnSet(1, 0), nil, nil}, aLive{lnSet(2, 0), nil, nil}, aLive{lnJump(0), nil, nil})
	wantLive(t, aLive{lnSet(1, 0), nil, nil}, aLive{lnJump(2), nil, nil}, aLive{lnSet(2, 0), nil, nil}, aLive{lnJump(1), nil, nil})
	wantLive(t, aLive{lnJump(3), boxes(5), boxes(5)}, aLive{lnJump(2), nil, nil}, aLive{lnJump(1), nil, nil}, aLive{lnGive(5), boxes(5), nil})
	wantLive(t, aLive{lnIf(3, 0), boxes(3), boxes(3)}, aLive{lnJump(1), nil, nil})
	for _, rows := range someRows {
		for _, place := range placesAmong(rows) {
			list := append(slices.Repeat([]impl.Line{lnSet(8, 1)}, int(rows)-1), lnJump(place))
			for _, at := range placesAmong(rows) {
				if got := append(impl.LiveIn(list, at), impl.LiveOut(list, at)...); len(got) != 0 {
					t.Fatalf("%v are wanted at %d, though nobody uses any box, of%s", got, at, showLines(list))
				}
			}
		}
	}
}

// Lines that nobody comes to want what they want, and it does not count for the others.
func TestLiveOfLinesThatNobodyComesTo(t *testing.T) {
	wantLive(t, aLive{lnJump(2), boxes(0), boxes(0)}, aLive{lnMove(1, 9), boxes(0, 9), boxes(0)}, aLive{lnGive(0), boxes(0), nil})
	wantLive(t, aLive{lnGive(1), boxes(1), nil}, aLive{lnGive(2), boxes(2), nil}, aLive{lnGive(3), boxes(3), nil})
	wantLive(t, aLive{lnTrap(), nil, nil}, aLive{lnStore(5, 6, 0), boxes(5, 6, 7), boxes(7)}, aLive{lnGive(7), boxes(7), nil})
	wantLive(t, aLive{lnGive(0), boxes(0), nil}, aLive{lnBin(8, 8, 9, 1), boxes(8, 9), boxes(8, 9)}, aLive{lnIf(8, 1), boxes(8, 9), boxes(8, 9)}, aLive{lnJump(1), boxes(8, 9), boxes(8, 9)})
	wantLive(t, aLive{lnTrap(), nil, nil}, aLive{lnIf(4, 0), boxes(3, 4), boxes(3)}, aLive{lnGive(3), boxes(3), nil})
}

// Each box that a line reads is wanted ahead of it, whatever stands around it, and what it only writes is not.
func TestLiveOfEachField(t *testing.T) {
	for _, r := range lineRules {
		for box := range int64(40) {
			for i, field := range boxFields {
				l := r.leastLine()
				if !r.told()[i] {
					continue
				}
				field.write(&l, box)
				want := plainUses(l)
				for _, list := range [][]impl.Line{{l, lnTrap()}, {lnTrap(), l, lnTrap()}, {lnJump(1), lnTrap(), lnGive(0), l, lnTrap()}} {
					at := int64(slices.IndexFunc(list, func(other impl.Line) bool { return sameLine(other, l) }))
					if got := impl.LiveIn(list, at); !slices.Equal(got, want) {
						t.Fatalf("LiveIn at %d is %v, not %v, of%s", at, got, want, showLines(list))
					}
					wantAsFlows(t, list)
				}
			}
		}
	}
}

// All 40 boxes may be wanted at once; each that is set is one less.
func TestLiveOfAllBoxes(t *testing.T) {
	var lives []aLive
	for box := range int64(40) {
		lives = append(lives, aLive{lnSet(box, 1), upTo(0, box-1), upTo(0, box)})
	}
	for box := int64(0); box < 40; box += 2 {
		lives = append(lives, aLive{lnStore(box, box+1, 0), upTo(box, 39), upTo(box+2, 39)})
	}
	lives = append(lives, aLive{lnTrap(), nil, nil})
	wantLive(t, lives...)
	// Where the last one goes back to the first that asks, all of them are wanted by each one that does.
	for i := 40; i <= 60; i++ {
		lives[i].ahead, lives[i].behind = upTo(0, 39), upTo(0, 39)
	}
	lives[60].line = lnJump(40)
	wantLive(t, lives...)
}

func wantAhead(t *testing.T, list []impl.Line, at int64, want ...int64) {
	t.Helper()
	if got := impl.LiveIn(list, at); !slices.Equal(got, want) {
		t.Fatalf("LiveIn of line %d is %v, not %v, of%s", at, got, want, showLines(list))
	}
}

// What is wanted comes from the last line up to the first one, and from the first one to the last where all of them go back.
func TestLiveFromFarOff(t *testing.T) {
	for _, rows := range someRows {
		for _, box := range []int64{0, 31, 32, 39} {
			on := append(slices.Repeat([]impl.Line{lnSet(8, 1)}, int(rows)-1), lnGive(box))
			back := []impl.Line{lnGive(box)}
			for at := int64(1); at < rows; at++ {
				back = append(back, lnJump(at-1))
			}
			for _, at := range placesAmong(rows) {
				wantAhead(t, on, at, box)
				wantAhead(t, back, at, box)
			}
		}
	}
}

// All of them go on or back: the box that each one asks, and the one that the first gives, are wanted all along.
func TestLiveUpAndDown(t *testing.T) {
	for _, rows := range someRows[2:] {
		for _, box := range []int64{0, 7, 10, 39} {
			list := []impl.Line{lnGive(box)}
			for at := int64(1); at < rows-1; at++ {
				list = append(list, lnIf(9, at-1))
			}
			list = append(list, lnJump(rows-2))
			wantAhead(t, list, 0, box)
			for _, at := range placesAmong(rows)[1:] {
				wantAhead(t, list, at, min(box, 9), max(box, 9))
			}
		}
	}
}

// The first line, the last one, and places at which there is none.
func TestLiveAtTheEdges(t *testing.T) {
	for _, rows := range someRows {
		list := append(slices.Repeat([]impl.Line{lnIf(5, 0)}, int(rows)-1), lnGive(6))
		first := boxes(5, 6)
		if rows == 1 {
			first = boxes(6)
		}
		if got := impl.LiveIn(list, 0); !slices.Equal(got, first) {
			t.Fatalf("LiveIn of the first of %d is %v", rows, got)
		}
		if in, out := impl.LiveIn(list, rows-1), impl.LiveOut(list, rows-1); !slices.Equal(in, boxes(6)) || len(out) != 0 {
			t.Fatalf("LiveIn of the last of %d is %v, LiveOut %v", rows, in, out)
		}
		for _, at := range append(noLinesOf(list), manyNumbers()...) {
			if at < 0 || at >= rows {
				wantNoFlowAt(t, list, at)
			}
		}
	}
}
