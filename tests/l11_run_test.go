package tests

import (
	"slices"
	"testing"

	"loop.example/g00363/impl"
)

func TestConstantsOfChapter11(t *testing.T) {
	if impl.MaxTicks != maxTicks {
		t.Errorf("MaxTicks is %d", impl.MaxTicks)
	}
}

// Each Kind by itself: what it sets, where it goes, what it gives.
func TestRunLinesOfEachKind(t *testing.T) {
	wantGiven(t, running([]impl.Line{lnGive(0)}), 0, 1)
	wantGiven(t, running([]impl.Line{lnGive(0)}).by(9), 9, 1)
	wantGiven(t, running([]impl.Line{lnSet(7, 5), lnGive(7)}), 5, 2)
	wantGiven(t, running([]impl.Line{lnSet(39, greatestWord), lnGive(39)}), greatestWord, 2)
	wantGiven(t, running([]impl.Line{lnSet(0, 4), lnGive(0)}).by(9), 4, 2)
	wantGiven(t, running([]impl.Line{lnMove(3, 0), lnGive(3)}).by(9), 9, 2)
	wantGiven(t, running([]impl.Line{lnMove(3, 0), lnGive(0)}).by(9), 9, 2)
	wantGiven(t, running([]impl.Line{lnMove(0, 3), lnGive(0)}).by(9), 0, 2)
	wantGiven(t, running([]impl.Line{lnMove(0, 0), lnGive(0)}).by(9), 9, 2)
	wantGiven(t, running([]impl.Line{lnBin(5, 0, 1, impl.BoSub), lnGive(5)}).by(9, 4), 5, 2)
	wantGiven(t, running([]impl.Line{lnBin(5, 1, 0, impl.BoSub), lnGive(5)}).by(9, 4), 4294967291, 2)
	wantGiven(t, running([]impl.Line{lnBin(0, 0, 1, impl.BoSub), lnGive(0)}).by(9, 4), 5, 2)
	wantGiven(t, running([]impl.Line{lnBin(1, 0, 1, impl.BoSub), lnGive(1)}).by(9, 4), 5, 2)
	wantGiven(t, running([]impl.Line{lnBin(1, 0, 1, impl.BoSub), lnGive(0)}).by(9, 4), 9, 2)
	wantGiven(t, running([]impl.Line{lnBin(0, 0, 0, impl.BoAdd), lnGive(0)}).by(9), 18, 2)
	wantGiven(t, running([]impl.Line{lnJump(2), lnTrap(), lnGive(0)}).by(9), 9, 2)
	wantGiven(t, running([]impl.Line{lnJump(3), lnSet(0, 1), lnGive(0), lnSet(0, 2), lnJump(2)}), 2, 4)
	wantGiven(t, running([]impl.Line{lnTrap(), lnGive(0)}[1:]).by(9), 9, 1)
	wantEnded(t, running([]impl.Line{lnTrap()}), impl.OcTrap, 1)
	wantEnded(t, running([]impl.Line{lnSet(0, 5), lnTrap(), lnGive(0)}), impl.OcTrap, 2)
}

func TestRunLinesOfZero(t *testing.T) {
	for _, w := range manyWords() {
		want := flag(w == 0)
		wantGiven(t, running([]impl.Line{lnZero(4, 0), lnGive(4)}).by(w), want, 2)
		wantGiven(t, running([]impl.Line{lnZero(0, 0), lnGive(0)}).by(w), want, 2)
		wantGiven(t, running([]impl.Line{lnZero(4, 0), lnGive(0)}).by(w), w, 2)
		wantGiven(t, running([]impl.Line{lnZero(0, 0), lnZero(0, 0), lnGive(0)}).by(w), 1-want, 3)
	}
	wantGiven(t, running([]impl.Line{lnZero(0, 1), lnGive(0)}).by(5), 1, 2)
	wantGiven(t, running([]impl.Line{lnZero(0, 1), lnGive(0)}).by(5, 6), 0, 2)
}

// LnIf goes on behind itself by 0, and to its place by every other word.
func TestRunLinesOfIf(t *testing.T) {
	list := []impl.Line{lnIf(0, 3), lnSet(1, 7), lnJump(4), lnSet(1, 8), lnGive(1)}
	for _, w := range manyWords() {
		if w == 0 {
			wantGiven(t, running(list).by(w), 7, 4)
		} else {
			wantGiven(t, running(list).by(w), 8, 3)
		}
	}
	wantGiven(t, running([]impl.Line{lnIf(0, 1), lnGive(0)}).by(5), 5, 2)
	wantGiven(t, running([]impl.Line{lnIf(0, 1), lnGive(0)}), 0, 2)
	// It is A that is asked, and it stays.
	wantGiven(t, running([]impl.Line{lnIf(1, 2), lnTrap(), lnGive(1)}).by(0, 6), 6, 2)
	wantEnded(t, running([]impl.Line{lnIf(1, 2), lnTrap(), lnGive(1)}).by(6, 0), impl.OcTrap, 2)
}

// LnBin by each kind, of words at their edges; a division that cannot be ends all.
func TestRunLinesOfEachBin(t *testing.T) {
	words := append(slices.Clone(edgeWords), manyWords()[len(edgeWords):len(edgeWords)+4]...)
	for kind := int64(1); kind <= 12; kind++ {
		for _, a := range words {
			for _, b := range words {
				value, code := plainDone(kind, a, b)
				q := running([]impl.Line{lnBin(2, 0, 1, kind), lnGive(2)}).by(a, b)
				if code == 0 {
					wantRunning(t, q, impl.Outcome{Value: value, Memory: q.memory}, 2)
				} else {
					wantRunning(t, q, impl.Outcome{Code: code, Memory: q.memory}, 1)
				}
			}
		}
	}
	div := []impl.Line{lnSet(9, 1), lnBin(2, 0, 1, impl.BoDiv), lnSet(9, 2), lnGive(2)}
	wantEnded(t, running(div).by(1, 0), impl.OcZero, 2)
	wantEnded(t, running(div), impl.OcZero, 2)
	wantEnded(t, running(div).by(signBit, greatestWord), impl.OcOver, 2)
	wantGiven(t, running(div).by(signBit, 1), signBit, 4)
	wantGiven(t, running(div).by(4294967289, 2), 4294967293, 4)
}

// A box that nobody has set is 0, and all others are as they were when one is set.
func TestRunLinesOfEachBox(t *testing.T) {
	for box := range int64(40) {
		for count := range int64(4) {
			want := int64(0)
			if box < count {
				want = 11 + box
			}
			args := []int64{11, 12, 13}[:count]
			wantRunning(t, running([]impl.Line{lnGive(box)}).by(args...), impl.Outcome{Value: want, Memory: make([]int64, 64)}, 1)
			for other := range int64(40) {
				q := running([]impl.Line{lnSet(other, 99), lnGive(box)}).by(args...)
				if other == box {
					wantRunning(t, q, impl.Outcome{Value: 99, Memory: q.memory}, 2)
				} else {
					wantRunning(t, q, impl.Outcome{Value: want, Memory: q.memory}, 2)
				}
			}
		}
	}
}

// Args none, one, two and three, of every size, in their order; an empty list and nil are alike.
func TestRunLinesOfArguments(t *testing.T) {
	for _, w := range manyWords() {
		args := []int64{w, greatestWord - w, w / 2}
		for count := range 4 {
			for box := range int64(4) {
				want := int64(0)
				if int(box) < count {
					want = args[box]
				}
				wantGiven(t, running([]impl.Line{lnGive(box)}).by(args[:count]...), want, 1)
			}
		}
	}
	for _, none := range [][]int64{nil, {}, make([]int64, 0, 3), {1, 2, 3}} {
		wantGiven(t, running([]impl.Line{lnGive(0)}).by(none[:0]...), 0, 1)
	}
}

// LnLoad and LnStore at each place from 0 to 60, by all ways to tell it.
func TestRunLinesOfEachPlace(t *testing.T) {
	memory := plainNumbers(manyData(111, 64))
	for place := range int64(61) {
		for _, s := range spotsOf(place) {
			load := running([]impl.Line{lnLoad(5, 1, s.offset), lnGive(5)}).by(0, s.at).on(memory)
			wantRunning(t, load, impl.Outcome{Value: plainLoad(memory, place), Memory: memory}, 2)
			store := running([]impl.Line{lnStore(1, 2, s.offset), lnGive(2)}).by(0, s.at, 16909060).on(memory)
			wantRunning(t, store, impl.Outcome{Value: 16909060, Memory: plainStore(memory, place, 16909060)}, 2)
		}
	}
}

// Beyond the memory both end all, and leave it as it is.
func TestRunLinesBeyondTheMemory(t *testing.T) {
	memory := plainNumbers(manyData(112, 64))
	count := 0
	for _, s := range append(noSpots(), aSpot{at: 61}, aSpot{at: 60, offset: 1}, aSpot{offset: 61}, aSpot{offset: 255}, aSpot{at: greatestWord, offset: 255}, aSpot{at: greatestWord, offset: 1}) {
		if s.at < 0 || s.at > greatestWord || s.offset < 0 || s.offset > 255 {
			continue
		}
		count++
		wantEnded(t, running([]impl.Line{lnSet(3, 1), lnLoad(5, 1, s.offset), lnGive(5)}).by(0, s.at).on(memory), impl.OcBounds, 2)
		wantEnded(t, running([]impl.Line{lnSet(3, 1), lnStore(1, 2, s.offset), lnGive(5)}).by(0, s.at, 7).on(memory), impl.OcBounds, 2)
	}
	if count < 10 {
		t.Fatalf("%d spots: too few to tell", count)
	}
}

func TestRunLinesOfMemoryByHand(t *testing.T) {
	noughts := make([]int64, 64)
	store := running([]impl.Line{lnStore(0, 1, 2), lnLoad(3, 0, 3), lnGive(3)}).by(8, 67305985)
	wantRun(t, store, impl.Outcome{Value: 262914, Memory: append(make([]int64, 10), append([]int64{1, 2, 3, 4}, make([]int64, 50)...)...)}, 3)
	// LnLoad may set the box it is told by, and LnStore may store it.
	wantGiven(t, running([]impl.Line{lnLoad(0, 0, 0), lnGive(0)}).by(2).on(plainNumbers("abcdefgh"+manyData(113, 56))), 1717920867, 2)
	wantRun(t, running([]impl.Line{lnStore(0, 0, 1), lnGive(0)}).by(4), impl.Outcome{Value: 4, Memory: plainStore(noughts, 5, 4)}, 2)
	// The memory begins as it is given, of every kind.
	for _, memory := range manyMemories() {
		wantGiven(t, running([]impl.Line{lnLoad(0, 0, 0), lnGive(0)}).by(60).on(memory), plainLoad(memory, 60), 2)
		wantEnded(t, running([]impl.Line{lnTrap()}).on(memory), impl.OcTrap, 1)
	}
}

// What was stored is in the Memory of every code.
func TestRunLinesHasWhatWasStored(t *testing.T) {
	memory := plainNumbers("abcd" + manyData(114, 60))
	stored := plainStore(memory, 4, 16909060)
	for _, c := range []struct {
		lines              []impl.Line
		code, value, count int64
	}{
		{[]impl.Line{lnGive(1)}, 0, 16909060, 1},
		{[]impl.Line{lnBin(2, 1, 0, impl.BoDiv), lnGive(1)}, 1, 0, 1},
		{[]impl.Line{lnSet(2, signBit), lnSet(3, greatestWord), lnBin(2, 2, 3, impl.BoDiv), lnGive(1)}, 2, 0, 3},
		{[]impl.Line{lnLoad(2, 0, 61), lnGive(1)}, 3, 0, 1},
		{[]impl.Line{lnStore(0, 1, 255), lnGive(1)}, 3, 0, 1},
		{[]impl.Line{lnStore(1, 0, 0), lnGive(1)}, 3, 0, 1},
		{[]impl.Line{lnTrap()}, 4, 0, 1},
	} {
		q := running(append([]impl.Line{lnSet(1, 16909060), lnStore(0, 1, 4)}, c.lines...)).on(memory)
		wantRun(t, q, impl.Outcome{Code: c.code, Value: c.value, Memory: stored}, 2+c.count)
	}
	loop := running([]impl.Line{lnSet(1, 16909060), lnStore(0, 1, 4), lnJump(2)}).on(memory)
	for _, fuel := range []int64{2, 3, 4, 100, maxTicks} {
		wantRunning(t, loop.fuelled(fuel), impl.Outcome{Code: 5, Memory: stored}, fuel)
	}
	for fuel := range int64(2) {
		wantRunning(t, loop.fuelled(fuel), impl.Outcome{Code: 5, Memory: memory}, fuel)
	}
	deep := running([]impl.Line{lnSet(1, 16909060), lnStore(0, 1, 4), lnCall(2, 0), lnGive(1)}).on(memory)
	wantRun(t, deep, impl.Outcome{Code: 6, Memory: stored}, 36)
}

// Each Line takes 1, ahead of what it does: with so much of fuel, so many have stored.
func TestRunLinesLineByLineOfFuel(t *testing.T) {
	list := []impl.Line{lnSet(0, 1), lnStore(3, 0, 0), lnSet(0, 2), lnStore(3, 0, 4), lnSet(0, 3), lnStore(3, 0, 8), lnGive(0)}
	for fuel := range int64(12) {
		memory := make([]int64, 64)
		for i := range int64(3) {
			if fuel >= 2*i+2 {
				memory[4*i] = i + 1
			}
		}
		want := impl.Outcome{Code: 5, Memory: memory}
		if fuel >= 7 {
			want.Code, want.Value = 0, 3
		}
		wantRunning(t, running(list).fuelled(fuel), want, min(fuel, 7))
	}
	for size := range 300 {
		wantGiven(t, running(append(slices.Repeat([]impl.Line{lnSet(1, 1)}, size), lnGive(0))).by(5), 5, int64(size)+1)
	}
}

func TestRunLinesAtTheEdgesOfFuel(t *testing.T) {
	memory := make([]int64, 64)
	give, trap, loop := running([]impl.Line{lnGive(0)}), running([]impl.Line{lnTrap()}), running([]impl.Line{lnJump(0)})
	for _, q := range []aRunning{give, trap, loop} {
		wantRunning(t, q.fuelled(0), impl.Outcome{Code: 5, Memory: memory}, 0)
		for _, fuel := range []int64{-1, -2, -maxTicks, maxTicks + 1, maxTicks + 2, 4294967296, 4294967297, -4294967296, -4294967295, 1 << 40, leastInt, leastInt + 1, greatestInt, greatestInt - 1} {
			wantRunning(t, q.fuelled(fuel), impl.Outcome{Code: 7}, -1)
		}
	}
	wantRunning(t, give.fuelled(1), impl.Outcome{Memory: memory}, 1)
	wantRunning(t, trap.fuelled(1), impl.Outcome{Code: 4, Memory: memory}, 1)
	for _, fuel := range []int64{1, 2, 3000, 3001, maxTicks - 1, maxTicks} {
		wantRunning(t, loop.fuelled(fuel), impl.Outcome{Code: 5, Memory: memory}, fuel)
	}
}

// What takes just MaxTicks is done with it; what takes one more cannot be.
func TestRunLinesOfAllOfMaxTicks(t *testing.T) {
	for more := range 4 {
		list := []impl.Line{lnSet(1, 1), lnBin(0, 0, 1, impl.BoSub), lnIf(0, 1)}
		list = append(append(list, slices.Repeat([]impl.Line{lnMove(2, 1)}, more)...), lnGive(2))
		q := running(list).by(99998)
		if ran := int64(1 + 2*99998 + more + 1); ran <= maxTicks {
			wantRun(t, q, impl.Outcome{Value: flag(more > 0), Memory: q.memory}, ran)
		} else {
			wantRunning(t, q, impl.Outcome{Code: 5, Memory: q.memory}, maxTicks)
		}
	}
}

// A sum from n down to 1, a count in memory, and boxes that change places.
func TestRunLinesOfLoops(t *testing.T) {
	sum := []impl.Line{lnSet(2, 1), lnIf(0, 3), lnGive(1), lnBin(1, 1, 0, impl.BoAdd), lnBin(0, 0, 2, impl.BoSub), lnJump(1)}
	for _, n := range []int64{0, 1, 2, 10, 100, 40000} {
		wantGiven(t, running(sum).by(n), n*(n+1)/2, 1+4*n+2)
	}
	count := []impl.Line{lnSet(1, 1), lnLoad(2, 0, 0), lnBin(2, 2, 1, impl.BoAdd), lnStore(0, 2, 0), lnJump(1)}
	for fuel := range int64(2000) {
		rounds := fuel / 4
		memory := append([]int64{rounds % 256, rounds / 256}, make([]int64, 62)...)
		wantRunning(t, running(count).fuelled(fuel), impl.Outcome{Code: 5, Memory: memory}, fuel)
	}
	turn := []impl.Line{lnSet(4, 1), lnMove(3, 0), lnMove(0, 1), lnMove(1, 3), lnBin(2, 2, 4, impl.BoSub), lnIf(2, 1), lnGive(0)}
	wantGiven(t, running(turn).by(7, 8, 5), 8, 27)
	wantGiven(t, running(turn).by(7, 8, 6), 7, 32)
}
