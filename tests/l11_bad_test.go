package tests

import (
	"slices"
	"testing"

	"loop.example/g00363/impl"
)

func TestRunLinesOfEachCountOfCodes(t *testing.T) {
	code := []impl.Line{lnSet(0, 5), lnGive(0)}
	for count := 1; count <= 4; count++ {
		wantGiven(t, running(slices.Repeat([][]impl.Line{code}, count)...), 5, 2)
	}
	for _, count := range []int{5, 6, 8, 255, 256, 257, 1000} {
		wantBadRun(t, running(slices.Repeat([][]impl.Line{code}, count)...))
	}
	for _, none := range [][][]impl.Line{nil, {}, make([][]impl.Line, 0, 4), {code, code}} {
		wantBadRun(t, running(none[:0]...))
		wantBadRun(t, running(none[:0]...).of(-1))
	}
	wantBadRun(t, running(nil))
	wantBadRun(t, running([]impl.Line{}))
	wantBadRun(t, running(code, nil))
	wantBadRun(t, running(nil, code).of(1))
}

func TestRunLinesOfNoCode(t *testing.T) {
	for count := int64(1); count <= 4; count++ {
		var codes [][]impl.Line
		for k := range count {
			codes = append(codes, []impl.Line{lnSet(0, 10+k), lnGive(0)})
		}
		for k := range count {
			wantGiven(t, running(codes...).of(k), 10+k, 2)
		}
		for _, k := range numbersOutside(count) {
			if k < 0 || k >= count {
				wantBadRun(t, running(codes...).of(k))
			}
		}
		// There is room behind the list, but no code.
		wantBadRun(t, running(codes[:count-1]...).of(count-1))
	}
}

// One code that is not LinesOk is enough, wherever it stands and whether one comes to it or not.
func TestRunLinesOfCodesThatAreNotRight(t *testing.T) {
	right := []impl.Line{lnSet(0, 5), lnGive(0)}
	wrong := [][]impl.Line{
		{}, {lnSet(0, 5)}, {lnGive(0), lnMove(1, 0)}, {lnJump(1)}, {lnIf(0, 2), lnGive(0)}, {lnGive(0), lnJump(300)}, {lnGive(0), lnIf(0, 1)}, {lnGive(40)}, {lnGive(-1)}, {lnGive(0), lnCall(0, 0), lnLoad(0, 0, 0)},
		append(slices.Repeat([]impl.Line{lnSet(0, 1)}, 300), lnGive(0)),
	}
	for _, l := range wrongLines() {
		wrong = append(wrong, []impl.Line{lnGive(0), l, lnGive(0)})
	}
	for i, list := range wrong {
		for count := 1; count <= 4; count++ {
			for at := range count {
				codes := slices.Repeat([][]impl.Line{right}, count)
				codes[at] = list
				if i > 20 && (at+count+i)%3 != 0 {
					continue
				}
				for k := range int64(count) {
					wantBadRun(t, running(codes...).of(k))
				}
			}
		}
	}
}

// LnCall's N is one of the codes, in each of them, also where one does not come to it.
func TestRunLinesOfCallsOfNone(t *testing.T) {
	for count := int64(1); count <= 4; count++ {
		for at := range count {
			for callee := range int64(4) {
				for boxes := range 4 {
					codes := slices.Repeat([][]impl.Line{{lnSet(0, 5), lnGive(0)}}, int(count))
					codes[at] = []impl.Line{lnSet(0, 6), lnGive(0), lnCall(1, callee, []int64{0, 1, 2}[:boxes]...), lnTrap()}
					for k := range count {
						if q := running(codes...).of(k); callee >= count {
							wantBadRun(t, q)
						} else {
							wantGiven(t, q, 5+flag(k == at), 2)
						}
					}
				}
			}
		}
	}
	wantBadRun(t, running([]impl.Line{lnCall(0, 1), lnGive(0)}))
	wantBadRun(t, running([]impl.Line{lnJump(2), lnCall(0, 3), lnTrap()}))
	wantBadRun(t, running([]impl.Line{lnGive(0)}, []impl.Line{lnJump(0)}, []impl.Line{lnCall(0, 3, 1), lnGive(0)}))
}

func TestRunLinesOfWrongArguments(t *testing.T) {
	for _, list := range [][]impl.Line{{lnGive(0)}, {lnTrap()}, {lnJump(0)}} {
		for count := 4; count <= 6; count++ {
			wantBadRun(t, running(list).by([]int64{1, 2, 3, 4, 5, 6}[:count]...))
		}
		wantBadRun(t, running(list).by(make([]int64, 64)...))
		for count := 1; count <= 4; count++ {
			for at := range count {
				for _, n := range noWords {
					args := slices.Repeat([]int64{greatestWord}, count)
					args[at] = n
					wantBadRun(t, running(list).by(args...))
				}
			}
		}
	}
}

func TestRunLinesOfNoMemory(t *testing.T) {
	for _, list := range [][]impl.Line{{lnGive(0)}, {lnTrap()}, {lnLoad(0, 0, 0), lnGive(0)}, {lnStore(0, 0, 0), lnGive(0)}} {
		for _, memory := range noMemories() {
			wantBadRun(t, running(list).on(memory))
		}
		for _, size := range []int{0, 1, 63, 65, 66, 128, 1000} {
			wantBadRun(t, running(list).on(make([]int64, size)))
		}
		for at := range 64 {
			for _, n := range []int64{-1, 256, 257, -256, 4294967296, leastInt, greatestInt} {
				wantBadRun(t, running(list).on(changed(make([]int64, 64), at, n)))
			}
		}
		// There is room behind it, but no memory.
		wantBadRun(t, running(list).on(make([]int64, 64)[:63]))
	}
}

// Several things that are not as told are OcBad, too.
func TestRunLinesOfManyFaults(t *testing.T) {
	for _, codes := range [][][]impl.Line{nil, {{lnGive(0)}}, {{lnCall(0, 1), lnGive(0)}}, {{lnSet(0, 1)}}} {
		for _, k := range []int64{-1, 0, 1, leastInt, greatestInt} {
			for _, args := range [][]int64{nil, {-1}, {1, 2, 3, 4}} {
				for _, memory := range [][]int64{nil, make([]int64, 64), changed(make([]int64, 64), 3, 256)} {
					for _, fuel := range []int64{-1, 0, 5, maxTicks, maxTicks + 1, leastInt, greatestInt} {
						wantAsWalked(t, aRunning{codes, k, args, memory, fuel})
					}
				}
			}
		}
	}
}
