package tests

import (
	"fmt"
	"slices"
	"strings"
	"testing"

	"loop.example/g00363/impl"
)

const maxTicks = 200000

// aRunning is what is asked of RunLines and Ran.
type aRunning struct {
	codes  [][]impl.Line
	k      int64
	args   []int64
	memory []int64
	fuel   int64
}

// running is of these codes, the first one first, with noughts as memory and as much fuel as there may be.
func running(codes ...[]impl.Line) aRunning {
	return aRunning{codes: codes, memory: make([]int64, 64), fuel: maxTicks}
}

func (q aRunning) by(args ...int64) aRunning {
	q.args = args
	return q
}

func (q aRunning) of(k int64) aRunning {
	q.k = k
	return q
}

func (q aRunning) on(memory []int64) aRunning {
	q.memory = memory
	return q
}

func (q aRunning) fuelled(fuel int64) aRunning {
	q.fuel = fuel
	return q
}

func (q aRunning) String() string {
	var codes []string
	for _, list := range q.codes {
		codes = append(codes, showLines(list))
	}
	return fmt.Sprintf("%s: code %d by %v on %v, fuel %d", strings.Join(codes, "\n"), q.k, q.args, q.memory, q.fuel)
}

func (q aRunning) outcome() impl.Outcome {
	return impl.RunLines(q.codes, q.k, q.args, q.memory, q.fuel)
}

func (q aRunning) ran() int64 { return impl.Ran(q.codes, q.k, q.args, q.memory, q.fuel) }

func plainAllIn(list []int64, greatest int64) bool {
	for _, n := range list {
		if n < 0 || n > greatest {
			return false
		}
	}
	return true
}

func (q aRunning) plainOk() bool {
	count := int64(len(q.codes))
	is := count >= 1 && count <= 4 && q.k >= 0 && q.k < count && q.fuel >= 0 && q.fuel <= maxTicks
	for _, list := range q.codes {
		is = is && plainLinesOk(list)
		for _, l := range list {
			is = is && (l.Kind != 7 || l.N < count)
		}
	}
	return is && len(q.args) <= 3 && plainAllIn(q.args, greatestWord) && len(q.memory) == 64 && plainAllIn(q.memory, 255)
}

// aFrame is a code that has not given, and the caller's box that is set when it does.
type aFrame struct {
	list  []impl.Line
	at    int64
	boxes [40]int64
	into  int64
}

// aPlainWalk goes over Lines with all that has not given in one list, so that nothing calls itself and nothing is thrown.
type aPlainWalk struct {
	codes  [][]impl.Line
	frames []*aFrame
	memory []int64
	value  int64
	code   int64
}

func (w *aPlainWalk) push(k int64, args []int64, into int64) {
	if len(w.frames) == 12 {
		w.code = 6
		return
	}
	f := &aFrame{list: w.codes[k], into: into}
	copy(f.boxes[:], args)
	w.frames = append(w.frames, f)
}

// give answers whether that was the last one.
func (w *aPlainWalk) give(value int64) bool {
	last := len(w.frames) - 1
	into := w.frames[last].into
	w.frames = w.frames[:last]
	if last == 0 {
		w.value = value
		return true
	}
	w.frames[last-1].boxes[into] = value
	return false
}

// place answers where a word stands, and notes OcBounds where there is none.
func (w *aPlainWalk) place(at, offset int64) (int64, bool) {
	if at+offset > 60 {
		w.code = 3
		return 0, false
	}
	return at + offset, true
}

// line does the next one, and answers whether all is given.
func (w *aPlainWalk) line() bool {
	f := w.frames[len(w.frames)-1]
	l := f.list[f.at]
	f.at++
	switch l.Kind {
	case 1:
		f.boxes[l.D] = l.N
	case 2:
		f.boxes[l.D] = f.boxes[l.A]
	case 3:
		f.boxes[l.D], w.code = plainDone(l.N, f.boxes[l.A], f.boxes[l.B])
	case 4:
		f.boxes[l.D] = flag(f.boxes[l.A] == 0)
	case 5:
		f.at = l.N
	case 6:
		if f.boxes[l.A] != 0 {
			f.at = l.N
		}
	case 7:
		var args []int64
		for _, box := range l.List {
			args = append(args, f.boxes[box])
		}
		w.push(l.N, args, l.D)
	case 8:
		if place, is := w.place(f.boxes[l.A], l.N); is {
			f.boxes[l.D] = plainLoad(w.memory, place)
		}
	case 9:
		if place, is := w.place(f.boxes[l.A], l.N); is {
			w.memory = plainStore(w.memory, place, f.boxes[l.B])
		}
	case 10:
		return w.give(f.boxes[l.A])
	case 11:
		w.code = 4
	}
	return false
}

// plain answers what RunLines and Ran should.
func (q aRunning) plain() (impl.Outcome, int64) {
	if !q.plainOk() {
		return impl.Outcome{Code: 7}, -1
	}
	w := &aPlainWalk{codes: q.codes, memory: slices.Clone(q.memory)}
	w.push(q.k, q.args, 0)
	for ran := int64(0); ; ran++ {
		if ran == q.fuel {
			return impl.Outcome{Code: 5, Memory: w.memory}, ran
		}
		if given := w.line(); given || w.code != 0 {
			return impl.Outcome{Code: w.code, Value: w.value, Memory: w.memory}, ran + 1
		}
	}
}

func wantRunning(t *testing.T, q aRunning, want impl.Outcome, ran int64) {
	t.Helper()
	if got := q.outcome(); !sameOutcome(got, want) {
		t.Fatalf("RunLines of %v = %v, want %v", q, got, want)
	}
	if got := q.ran(); got != ran {
		t.Fatalf("Ran of %v = %d, want %d", q, got, ran)
	}
}

// wantAsWalked holds RunLines and Ran against the plain walk, and answers what that says.
func wantAsWalked(t *testing.T, q aRunning) (impl.Outcome, int64) {
	t.Helper()
	want, ran := q.plain()
	wantRunning(t, q, want, ran)
	return want, ran
}

// wantRun asks of what was told by hand, with just so much fuel, more of it, and less, which is OcFuel.
func wantRun(t *testing.T, q aRunning, want impl.Outcome, ran int64) {
	t.Helper()
	for _, fuel := range []int64{ran, ran + 1, ran + 7, maxTicks - 1, maxTicks} {
		wantRunning(t, q.fuelled(max(ran, min(fuel, maxTicks))), want, ran)
	}
	for _, fuel := range []int64{0, 1, ran / 2, ran - 2, ran - 1} {
		if fuel < 0 || fuel >= ran {
			continue
		}
		if got, took := wantAsWalked(t, q.fuelled(fuel)); got.Code != 5 || took != fuel {
			t.Fatalf("%v ends by %d behind %d Lines, though %d are needed", q.fuelled(fuel), got.Code, took, ran)
		}
	}
}

// wantGiven asks of codes that leave the memory as it is.
func wantGiven(t *testing.T, q aRunning, value, ran int64) {
	t.Helper()
	wantRun(t, q, impl.Outcome{Value: value, Memory: q.memory}, ran)
}

// wantEnded likewise, of what ends all.
func wantEnded(t *testing.T, q aRunning, code, ran int64) {
	t.Helper()
	wantRun(t, q, impl.Outcome{Code: code, Memory: q.memory}, ran)
}

// wantBadRun asks for OcBad, 0 and none, with every fuel there may be.
func wantBadRun(t *testing.T, q aRunning) {
	t.Helper()
	for _, fuel := range []int64{0, 1, 100, maxTicks} {
		wantRunning(t, q.fuelled(fuel), impl.Outcome{Code: impl.OcBad}, -1)
	}
}
