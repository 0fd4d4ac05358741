package tests

import (
	"slices"
	"testing"

	"loop.example/g00363/impl"
)

// aTelling is told a list of lines, and whether it is right.
type aTelling func(list []impl.Line, right bool)

// eachEdge tells lists that are just right, and lists that just are not, of each thing that LinesOk asks.
func eachEdge(tell aTelling) {
	eachCount(tell)
	eachWrongLine(tell)
	eachPlaceThatIsNotThere(tell)
	eachLastLine(tell)
}

func eachCount(tell aTelling) {
	for _, list := range [][]impl.Line{nil, {}, make([]impl.Line, 0, 5), manyMoves(3)[:0]} {
		tell(list, false)
	}
	for _, rows := range []int{301, 302, 512, 600, 65536} {
		for _, l := range []impl.Line{lnTrap(), lnGive(0), lnJump(0), lnJump(299)} {
			tell(slices.Repeat([]impl.Line{l}, rows), false)
		}
		tell(manyMoves(rows), false)
	}
	for _, last := range []impl.Line{lnJump(299), lnJump(0), lnGive(2), lnTrap()} {
		tell(append(manyMoves(299), last), true)
		tell(append(manyMoves(300), last), false)
	}
}

// eachWrongLine puts one line that is not right among right ones, also where nobody comes to it.
func eachWrongLine(tell aTelling) {
	for _, wrong := range wrongLines() {
		for _, rows := range []int64{1, 2, 5, 300} {
			for _, at := range placesAmong(rows) {
				list := manyMoves(int(rows))
				list[at] = wrong
				tell(list, false)
				list = slices.Repeat([]impl.Line{lnJump(0)}, int(rows))
				list[at] = wrong
				tell(list, false)
			}
		}
	}
}

// eachPlaceThatIsNotThere has one line that goes to none, however near that would be.
func eachPlaceThatIsNotThere(tell aTelling) {
	for _, rows := range someRows {
		for _, at := range placesAmong(rows) {
			for _, place := range []int64{rows, rows + 1, 299, 300, -1, -rows, 4294967296, leastInt, greatestInt} {
				if place >= 0 && place < rows {
					continue
				}
				for _, l := range []impl.Line{lnJump(place), lnIf(0, place)} {
					list := manyMoves(int(rows))
					list[at] = l
					tell(list, false)
					tell(among(l, at, rows), false)
				}
			}
		}
	}
}

// eachLastLine has a line of each Kind as the last one.
func eachLastLine(tell aTelling) {
	for _, r := range lineRules {
		for _, rows := range someRows {
			ends := r.kind == 5 || r.kind == 10 || r.kind == 11
			tell(append(manyMoves(int(rows))[:rows-1], r.leastLine()), ends)
			tell(among(r.leastLine(), rows-1, rows), ends)
		}
	}
}

func TestLinesOkAtTheEdges(t *testing.T) {
	told := map[bool]int{}
	eachEdge(func(list []impl.Line, right bool) {
		if wantAsListed(t, list) != right {
			t.Fatalf("right is %v, of%s", right, showLines(list))
		}
		told[right]++
	})
	if told[true] < 50 || told[false] < 3000 {
		t.Fatalf("%v are told: too few to tell", told)
	}
}
