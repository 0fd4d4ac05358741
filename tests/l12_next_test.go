package tests

import (
	"slices"
	"testing"

	"loop.example/g00363/impl"
)

func wantNexts(t *testing.T, list []impl.Line, at int64, want ...int64) {
	t.Helper()
	if got := impl.Nexts(list, at); !slices.Equal(got, want) {
		t.Fatalf("Nexts of line %d is %v, not %v, of%s", at, got, want, showLines(list))
	}
}

func wantLeaders(t *testing.T, list []impl.Line, want ...int64) {
	t.Helper()
	if got := impl.Leaders(list); !slices.Equal(got, want) {
		t.Fatalf("Leaders is %v, not %v, of%s", got, want, showLines(list))
	}
}

// among is l at at among so many lines, all others of which trap.
func among(l impl.Line, at, rows int64) []impl.Line {
	list := slices.Repeat([]impl.Line{lnTrap()}, int(rows))
	list[at] = l
	return list
}

// someRows are how many lines there may be; 300 is the limit.
var someRows = []int64{1, 2, 3, 4, 10, 40, 41, 255, 256, 257, 299, 300}

// placesAmong are the first and the last ones, and some between.
func placesAmong(rows int64) []int64 {
	places := []int64{0, 1, 2, rows / 3, rows / 2, rows - 3, rows - 2, rows - 1}
	places = slices.DeleteFunc(places, func(at int64) bool { return at < 0 || at >= rows })
	return joinedRising(places)
}

func TestNextsByHand(t *testing.T) {
	list := []impl.Line{lnSet(0, 5), lnIf(0, 4), lnJump(0), lnCall(1, 3, 0), lnIf(1, 5), lnIf(1, 3), lnJump(6), lnGive(0), lnTrap(), lnStore(0, 1, 8), lnJump(10)}
	for at, want := range [][]int64{{1}, {2, 4}, {0}, {4}, {5}, {3, 6}, {6}, {}, {}, {10}, {10}} {
		wantNexts(t, list, int64(at), want...)
	}
	wantNexts(t, list, -1)
	wantNexts(t, list, 11)
}

// An LnJump goes to N alone: also to itself, to the one behind it, and from the last line.
func TestNextsOfJumps(t *testing.T) {
	for _, rows := range someRows {
		for _, at := range placesAmong(rows) {
			for place := range rows {
				wantNexts(t, among(lnJump(place), at, rows), at, place)
			}
		}
	}
}

// An LnIf goes to N or on to the one behind it, which are told once where they are the same.
func TestNextsOfIfs(t *testing.T) {
	for _, rows := range someRows {
		for _, at := range placesAmong(rows) {
			if at == rows-1 {
				continue
			}
			for place := range rows {
				list := among(lnIf(place%40, place), at, rows)
				switch {
				case place == at+1:
					wantNexts(t, list, at, at+1)
				case place < at+1:
					wantNexts(t, list, at, place, at+1)
				default:
					wantNexts(t, list, at, at+1, place)
				}
			}
		}
	}
}

// No line comes behind LnGive and LnTrap, wherever they stand.
func TestNextsOfEnds(t *testing.T) {
	for _, rows := range someRows {
		for _, at := range placesAmong(rows) {
			for box := range int64(40) {
				wantNexts(t, among(lnGive(box), at, rows), at)
			}
			wantNexts(t, among(lnTrap(), at, rows), at)
		}
	}
}

// Of every other kind it is the one behind it alone, whatever else the line tells: N is no place there.
func TestNextsOfLinesThatGoOn(t *testing.T) {
	for _, r := range lineRules {
		if slices.Contains([]int64{5, 6, 10, 11}, r.kind) {
			continue
		}
		for _, l := range []impl.Line{r.leastLine(), r.greatestLine()} {
			for _, rows := range someRows[1:] {
				for _, at := range placesAmong(rows - 1) {
					wantNexts(t, among(l, at, rows), at, at+1)
				}
			}
		}
	}
	for offset := range int64(256) {
		for _, l := range []impl.Line{lnSet(0, offset), lnLoad(0, 0, offset), lnStore(0, 0, offset), lnCall(0, offset%4, offset%40)} {
			wantNexts(t, []impl.Line{l, lnTrap(), lnTrap(), lnTrap()}, 0, 1)
		}
	}
}

// There is nothing ahead of the first line and behind the last one, nor far beyond.
func TestNextsOfNoLine(t *testing.T) {
	maker := newLineMaker(128)
	for _, rows := range someRows {
		for _, list := range [][]impl.Line{maker.lines(int(rows)), slices.Repeat([]impl.Line{lnJump(0)}, int(rows))} {
			for _, at := range append(noLinesOf(list), manyNumbers()...) {
				if at < 0 || at >= rows {
					wantNexts(t, list, at)
				}
			}
		}
	}
}

func TestLeadersByHand(t *testing.T) {
	wantLeaders(t, []impl.Line{lnSet(0, 5), lnSet(1, 1), lnSet(2, 2), lnIf(2, 4), lnBin(0, 0, 1, 1), lnGive(0)}, 0, 4)
	wantLeaders(t, []impl.Line{lnSet(0, 5), lnIf(0, 4), lnSet(1, 1), lnSet(1, 2), lnGive(0)}, 0, 2, 4)
	wantLeaders(t, []impl.Line{lnSet(0, 5), lnSet(1, 5), lnJump(1)}, 0, 1)
	wantLeaders(t, []impl.Line{lnSet(0, 5), lnSet(1, 5), lnIf(0, 1), lnJump(4), lnSet(3, 3), lnGive(0), lnMove(1, 2), lnTrap(), lnMove(1, 2), lnMove(1, 2), lnJump(9)}, 0, 1, 3, 4, 6, 8, 9)
	// Several that go to the same one, which stands behind an end, too.
	wantLeaders(t, []impl.Line{lnIf(0, 4), lnIf(1, 4), lnIf(2, 4), lnTrap(), lnGive(0)}, 0, 1, 2, 3, 4)
	// They are told rising, however they are gone to.
	wantLeaders(t, []impl.Line{lnIf(0, 7), lnMove(1, 1), lnIf(0, 5), lnMove(1, 1), lnMove(1, 1), lnMove(1, 1), lnMove(1, 1), lnMove(1, 1), lnMove(1, 1), lnJump(4)}, 0, 1, 3, 4, 5, 7)
	// The first line once, also where it is gone to.
	wantLeaders(t, []impl.Line{lnMove(1, 1), lnMove(1, 1), lnIf(0, 0), lnJump(0)}, 0, 3)
	// Lines that one does not come to count, too.
	wantLeaders(t, []impl.Line{lnGive(0), lnMove(1, 1), lnMove(1, 1), lnMove(1, 1), lnJump(3)}, 0, 1, 3)
}

func TestLeadersOfOneLine(t *testing.T) {
	for _, l := range []impl.Line{lnGive(0), lnGive(39), lnTrap(), lnJump(0)} {
		wantLeaders(t, []impl.Line{l}, 0)
	}
}

// Where nobody jumps there is but one piece, which ends at the last line.
func TestLeadersWhereNobodyJumps(t *testing.T) {
	for _, rows := range someRows {
		for _, last := range []impl.Line{lnGive(2), lnTrap()} {
			wantLeaders(t, append(manyMoves(int(rows))[:rows-1], last), 0)
		}
	}
	for _, r := range lineRules {
		if !slices.Contains([]int64{5, 6, 10, 11}, r.kind) {
			wantLeaders(t, []impl.Line{r.greatestLine(), r.leastLine(), r.greatestLine(), lnTrap()}, 0)
		}
	}
}

// Where all of them jump, or end, each one is a piece.
func TestLeadersWhereAllDo(t *testing.T) {
	for _, rows := range someRows {
		var all []int64
		for place := range rows {
			all = append(all, place)
		}
		for _, l := range []impl.Line{lnJump(0), lnJump(rows - 1), lnJump(rows / 2), lnGive(0), lnTrap()} {
			wantLeaders(t, slices.Repeat([]impl.Line{l}, int(rows)), all...)
		}
		for _, place := range placesAmong(rows) {
			wantLeaders(t, append(slices.Repeat([]impl.Line{lnIf(0, place)}, int(rows)-1), lnTrap()), all...)
		}
	}
}

// One that jumps, goes to a line and has one behind it, at each place: both begin a piece, and nothing else does.
func TestLeadersOfOneThatJumps(t *testing.T) {
	for _, rows := range someRows {
		for _, at := range placesAmong(rows) {
			behind := []int64{0}
			if at < rows-1 {
				behind = append(behind, at+1)
			}
			for place := range rows {
				list := manyMoves(int(rows))
				list[at] = lnJump(place)
				wantLeaders(t, list, joinedRising(behind, []int64{place})...)
				if at < rows-1 {
					list[at] = lnIf(place%40, place)
					wantLeaders(t, list, joinedRising(behind, []int64{place})...)
				}
			}
			for _, l := range []impl.Line{lnGive(7), lnTrap()} {
				list := manyMoves(int(rows))
				list[at] = l
				wantLeaders(t, list, behind...)
			}
		}
	}
}

// Each line that may be next behind one that does not simply go on begins a piece.
func TestNextsOfJumpsAreLeaders(t *testing.T) {
	maker := newLineMaker(129)
	for i := range 600 {
		list := maker.lines(1 + i%60)
		leaders := impl.Leaders(list)
		for at := range list {
			nexts := impl.Nexts(list, int64(at))
			for _, next := range nexts {
				if next != int64(at)+1 && !slices.Contains(leaders, next) {
					t.Fatalf("line %d goes to %d, and the Leaders are %v, of%s", at, next, leaders, showLines(list))
				}
			}
			behind := int64(at) + 1
			if goesOn := slices.Equal(nexts, []int64{behind}); !goesOn && behind < int64(len(list)) && !slices.Contains(leaders, behind) {
				t.Fatalf("line %d stands behind one that does not simply go on, and the Leaders are %v, of%s", behind, leaders, showLines(list))
			}
		}
	}
}
