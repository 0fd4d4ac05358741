package tests

import (
	"slices"
	"testing"

	"loop.example/g00363/impl"
)

// digitLines give boxes 0 up to 2 as digits of one number, the first one ahead.
func digitLines() []impl.Line {
	return []impl.Line{lnSet(9, 10), lnBin(3, 0, 9, impl.BoMul), lnBin(3, 3, 1, impl.BoAdd), lnBin(3, 3, 9, impl.BoMul), lnBin(3, 3, 2, impl.BoAdd), lnGive(3)}
}

// A call with 0 to 3 in List, in their order; those that are not told are 0, also where the caller's are not.
func TestRunLinesOfCallsWithEachCount(t *testing.T) {
	for _, c := range []struct {
		list []int64
		want int64
	}{
		{nil, 0}, {[]int64{0}, 700}, {[]int64{1}, 800}, {[]int64{2}, 900}, {[]int64{30}, 0}, {[]int64{1, 0}, 870}, {[]int64{0, 2}, 790}, {[]int64{1, 1}, 880},
		{[]int64{0, 1, 2}, 789}, {[]int64{2, 1, 0}, 987}, {[]int64{1, 1, 1}, 888}, {[]int64{30, 2, 30}, 90}, {[]int64{5, 0, 1}, 478}, {[]int64{39, 38, 5}, 4},
	} {
		for _, d := range []int64{0, 2, 5, 30, 39} {
			caller := []impl.Line{lnSet(5, 4), lnCall(d, 1, c.list...), lnGive(d)}
			wantGiven(t, running(caller, digitLines()).by(7, 8, 9), c.want, 3+6)
			wantGiven(t, running(digitLines(), caller).by(7, 8, 9), 789, 6)
		}
	}
}

// Boxes of the caller stay, but D, which is what is given; those of what is called are its own each time.
func TestRunLinesOfBoxesOfEachCall(t *testing.T) {
	spoiler := make([]impl.Line, 0, 41)
	for box := range int64(40) {
		spoiler = append(spoiler, lnSet(box, 77))
	}
	spoiler = append(spoiler, lnGive(20))
	for d := range int64(40) {
		for box := range int64(40) {
			list := []impl.Line{lnSet(box, 5), lnCall(d, 1, box, box), lnGive(box)}
			want := int64(5)
			if box == d {
				want = 77
			}
			wantRunning(t, running(list, spoiler), impl.Outcome{Value: want, Memory: make([]int64, 64)}, 3+41)
		}
	}
	// A box that was set in one call is 0 in the next.
	bump := []impl.Line{lnSet(1, 1), lnBin(7, 7, 1, impl.BoAdd), lnGive(7)}
	wantGiven(t, running([]impl.Line{lnCall(0, 1), lnCall(1, 1), lnCall(2, 1), lnBin(0, 0, 1, impl.BoAdd), lnBin(0, 0, 2, impl.BoAdd), lnGive(0)}, bump), 3, 6+9)
	// What is called has what it was given when it was called.
	wantGiven(t, running([]impl.Line{lnSet(0, 3), lnCall(0, 1, 0), lnCall(0, 1, 0), lnGive(0)}, []impl.Line{lnBin(0, 0, 0, impl.BoMul), lnGive(0)}), 81, 4+4)
}

// Each of four codes by its number, by each of the others and by RunLines itself; a later one, and an earlier one.
func TestRunLinesOfCallsOfEachCode(t *testing.T) {
	for from := range int64(4) {
		for to := range int64(4) {
			codes := [][]impl.Line{}
			for k := range int64(4) {
				codes = append(codes, append(slices.Repeat([]impl.Line{lnMove(1, 1)}, int(k)), lnSet(0, 10+k), lnGive(0)))
			}
			wantGiven(t, running(codes...).of(to), 10+to, 2+to)
			if from == to {
				continue
			}
			codes[from] = []impl.Line{lnCall(3, to), lnSet(4, 100), lnBin(3, 3, 4, impl.BoAdd), lnGive(3)}
			wantGiven(t, running(codes...).of(from), 110+to, 4+2+to)
		}
	}
}

// productLines call themselves with one less, until that is 0.
func productLines() []impl.Line {
	return []impl.Line{lnSet(1, 1), lnIf(0, 3), lnGive(1), lnBin(2, 0, 1, impl.BoSub), lnCall(2, 0, 2), lnBin(0, 0, 2, impl.BoMul), lnGive(0)}
}

func TestRunLinesOfCallsOfItself(t *testing.T) {
	want := int64(1)
	for n := range int64(12) {
		want *= max(n, 1)
		wantGiven(t, running(productLines()).by(n), want, 6*n+3)
	}
	for _, n := range []int64{12, 13, 100, signBit, greatestWord} {
		wantEnded(t, running(productLines()).by(n), impl.OcDeep, 12*4)
	}
	// Twice within itself: the numbers of a row in which each is the sum of the two ahead of it.
	row := []impl.Line{lnSet(1, 2), lnBin(2, 0, 1, impl.BoBelow), lnIf(2, 9), lnSet(1, 1), lnBin(3, 0, 1, impl.BoSub), lnCall(4, 0, 3), lnBin(3, 3, 1, impl.BoSub), lnCall(5, 0, 3), lnBin(0, 4, 5, impl.BoAdd), lnGive(0)}
	ran := []int64{4, 4}
	for n, value := range []int64{0, 1, 1, 2, 3, 5, 8, 13, 21, 34} {
		if n >= 2 {
			ran = append(ran, 10+ran[n-1]+ran[n-2])
		}
		wantGiven(t, running(row).by(int64(n)), value, ran[n])
	}
}

// MaxDepth codes that have not given may be there; one more ends all ahead of its first Line, which takes no fuel.
func TestRunLinesAtTheDepth(t *testing.T) {
	chain := func(to int64) []impl.Line {
		return []impl.Line{lnSet(1, 1), lnIf(0, 3), lnGive(0), lnBin(2, 0, 1, impl.BoSub), lnCall(3, to, 2), lnBin(3, 3, 1, impl.BoAdd), lnGive(3)}
	}
	for count := int64(1); count <= 4; count++ {
		var ring [][]impl.Line
		for i := range count {
			ring = append(ring, chain((i+1)%count))
		}
		for k := range count {
			for n := range int64(12) {
				wantGiven(t, running(ring...).of(k).by(n), n, 6*n+3)
			}
			for _, n := range []int64{12, 13, 1000} {
				wantEnded(t, running(ring...).of(k).by(n), impl.OcDeep, 12*4)
			}
		}
	}
	wantEnded(t, running([]impl.Line{lnCall(0, 0), lnGive(0)}), impl.OcDeep, 12)
	wantEnded(t, running([]impl.Line{lnMove(0, 0), lnCall(0, 0, 0, 1, 2), lnTrap()}).by(1, 2, 3), impl.OcDeep, 24)
	for fuel := range int64(20) {
		code := int64(5)
		if fuel >= 12 {
			code = 6
		}
		wantRunning(t, running([]impl.Line{lnCall(0, 0), lnGive(0)}).fuelled(fuel), impl.Outcome{Code: code, Memory: make([]int64, 64)}, min(fuel, 12))
	}
	// What would be the first Line of the one too deep is not come to, whatever it is, nor what code it is.
	down := []impl.Line{lnSet(1, 1), lnIf(0, 4), lnCall(3, 1), lnGive(3), lnBin(2, 0, 1, impl.BoSub), lnCall(3, 0, 2), lnGive(3)}
	for _, first := range []impl.Line{lnTrap(), lnBin(0, 0, 0, impl.BoDiv), lnStore(0, 0, 61), lnJump(0), lnSet(0, 1)} {
		wantEnded(t, running(down, []impl.Line{first, lnGive(0)}).by(11), impl.OcDeep, 11*4+3)
		wantEnded(t, running(down, []impl.Line{first, lnGive(0)}).by(12), impl.OcDeep, 12*4)
	}
	wantEnded(t, running(down, []impl.Line{lnTrap()}).by(10), impl.OcTrap, 10*4+4)
	wantGiven(t, running(down, []impl.Line{lnSet(0, 7), lnGive(0)}).by(10), 7, 10*5+6)
}

// Calls that have given do not count: as often as one likes, one after the other, and up to the depth again.
func TestRunLinesOfManyCallsOneAfterTheOther(t *testing.T) {
	leaf := []impl.Line{lnGive(0)}
	loop := []impl.Line{lnSet(1, 1), lnCall(2, 1, 0), lnBin(0, 0, 1, impl.BoSub), lnIf(0, 1), lnGive(2)}
	for _, n := range []int64{1, 11, 12, 13, 14, 100, 20000} {
		wantGiven(t, running(loop, leaf).by(n), 1, 2+4*n)
	}
	wantGiven(t, running(append(slices.Repeat([]impl.Line{lnCall(1, 1, 0)}, 299), lnGive(1)), leaf).by(6), 6, 300+299)
	back := slices.Clone(productLines())
	back[4] = lnCall(2, 1, 2)
	thrice := func(last int64) []impl.Line {
		return []impl.Line{lnSet(0, 10), lnCall(1, 1, 0), lnCall(1, 1, 0), lnSet(0, last), lnCall(1, 1, 0), lnGive(1)}
	}
	wantGiven(t, running(thrice(10), back), 3628800, 6+3*63)
	wantEnded(t, running(thrice(11), back), impl.OcDeep, 5+2*63+44)
}

// The memory is one and the same in all calls.
func TestRunLinesOfMemoryInCalls(t *testing.T) {
	store, load := []impl.Line{lnStore(0, 1, 0), lnGive(0)}, []impl.Line{lnLoad(0, 0, 0), lnGive(0)}
	noughts := make([]int64, 64)
	ahead := []impl.Line{lnSet(3, 8), lnSet(4, 77)}
	q := running(append(slices.Clone(ahead), lnCall(5, 1, 3, 4), lnLoad(6, 3, 0), lnCall(7, 2, 3), lnBin(6, 6, 7, impl.BoAdd), lnGive(6)), store, load)
	wantRun(t, q, impl.Outcome{Value: 154, Memory: plainStore(noughts, 8, 77)}, 7+4)
	q = running(append(slices.Clone(ahead), lnStore(3, 4, 0), lnCall(7, 2, 3), lnGive(7)), store, load)
	wantRun(t, q, impl.Outcome{Value: 77, Memory: plainStore(noughts, 8, 77)}, 5+2)
	// A count in memory goes on over all calls of itself.
	count := []impl.Line{lnSet(1, 1), lnLoad(2, 30, 4), lnBin(2, 2, 1, impl.BoAdd), lnStore(30, 2, 4), lnIf(0, 6), lnGive(2), lnBin(3, 0, 1, impl.BoSub), lnCall(3, 0, 3), lnGive(3)}
	for n := range int64(12) {
		wantRun(t, running(count).by(n), impl.Outcome{Value: n + 1, Memory: plainStore(noughts, 4, n+1)}, 8*n+6)
	}
	wantRun(t, running(count).by(12), impl.Outcome{Code: 6, Memory: plainStore(noughts, 4, 12)}, 12*7)
}

// What ends all ends it within however many calls; nothing is done behind it, and what was stored ahead of it is there.
func TestRunLinesOfMishapsWithinCalls(t *testing.T) {
	for _, c := range []struct {
		line impl.Line
		code int64
	}{
		{lnTrap(), 4}, {lnBin(0, 0, 1, impl.BoDiv), 1}, {lnBin(0, 5, 4, impl.BoDiv), 2}, {lnLoad(0, 4, 0), 3}, {lnStore(0, 1, 61), 3},
	} {
		inner := []impl.Line{lnSet(5, signBit), lnSet(4, greatestWord), c.line, lnSet(2, 9), lnStore(1, 2, 8), lnGive(0)}
		down := []impl.Line{lnSet(1, 1), lnIf(0, 6), lnStore(9, 1, 0), lnCall(3, 2), lnStore(9, 1, 4), lnGive(3), lnBin(2, 0, 1, impl.BoSub), lnCall(3, 1, 2), lnStore(9, 1, 4), lnGive(3)}
		first := []impl.Line{lnCall(1, 1, 0), lnStore(9, 0, 12), lnGive(1)}
		stored := plainStore(make([]int64, 64), 0, 1)
		for calls := range int64(13) {
			q := running(first, down, inner).by(calls)
			switch {
			case calls < 10:
				wantRun(t, q, impl.Outcome{Code: c.code, Memory: stored}, 1+4*calls+4+3)
			case calls == 10:
				wantRun(t, q, impl.Outcome{Code: 6, Memory: stored}, 1+4*calls+4)
			default:
				wantEnded(t, q, impl.OcDeep, 1+4*11)
			}
		}
	}
}

// Whichever comes first, of two mishaps, and of one and the end of fuel.
func TestRunLinesOfWhicheverComesFirst(t *testing.T) {
	mishaps := []struct {
		line impl.Line
		code int64
	}{
		{lnTrap(), 4}, {lnBin(5, 1, 0, impl.BoDiv), 1}, {lnBin(5, 2, 1, impl.BoDiv), 2}, {lnLoad(5, 1, 0), 3}, {lnStore(0, 1, 61), 3}, {lnStore(1, 0, 1), 3},
	}
	for _, a := range mishaps {
		for _, b := range mishaps {
			list := []impl.Line{lnSet(1, greatestWord), lnSet(2, signBit), a.line, b.line, lnGive(0)}
			wantEnded(t, running(list), a.code, 3)
			list[3] = lnCall(0, 0)
			wantEnded(t, running(list), a.code, 3)
			list[2], list[3] = lnCall(0, 0), b.line
			wantEnded(t, running(list), impl.OcDeep, 36)
			list[2] = lnJump(2)
			wantRunning(t, running(list).fuelled(50), impl.Outcome{Code: 5, Memory: make([]int64, 64)}, 50)
		}
	}
}
