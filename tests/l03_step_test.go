package tests

import (
	"slices"
	"strings"
	"testing"

	"loop.example/g00363/impl"
)

// aKind is a row of the document's list of Steps, written out by hand: told says whether A is.
type aKind struct {
	op, least, greatest int64
	told, opens         bool
}

var kindsOfSteps = []aKind{
	{1, 0, 4294967295, true, false}, {2, 0, 5, true, false}, {3, 0, 5, true, false}, {4, 0, 5, true, false}, {5, 1, 12, true, false},
	{6, 0, 0, false, false}, {7, 0, 0, false, false}, {8, 0, 1, true, true}, {9, 0, 0, false, true}, {10, 0, 1, true, true},
	{11, 0, 0, false, false}, {12, 0, 0, false, false}, {13, 0, 9, true, false}, {14, 0, 9, true, false}, {15, 0, 0, false, false},
	{16, 0, 3, true, false}, {17, 0, 255, true, false}, {18, 0, 255, true, false}, {19, 0, 0, false, false}, {20, 0, 0, false, false},
}

// noOps are numbers that are no Op; some of them would be one if only their last bits were looked at.
var noOps = []int64{0, -1, -2, -20, 21, 22, 127, 128, 255, 256, 257, 256 + 20, 65536 + 7, 4294967296 + 1, 4294967296 + 20, 1<<40 + 5, leastInt, leastInt + 1, leastInt + 12, greatestInt, greatestInt - 1}

// aStepCase is a Step and its bytes, written out by hand.
type aStepCase struct {
	step impl.Step
	text string
}

var stepCases = []aStepCase{
	{impl.Step{Op: impl.SpConst, A: 0}, "\x01\x00"}, {impl.Step{Op: impl.SpConst, A: 1}, "\x01\x01"}, {impl.Step{Op: impl.SpConst, A: 63}, "\x01\x3f"},
	{impl.Step{Op: impl.SpConst, A: 64}, "\x01\xc0\x00"}, {impl.Step{Op: impl.SpConst, A: 128}, "\x01\x80\x01"}, {impl.Step{Op: impl.SpConst, A: 8192}, "\x01\x80\xc0\x00"},
	{impl.Step{Op: impl.SpConst, A: 2147483647}, "\x01\xff\xff\xff\xff\x07"}, {impl.Step{Op: impl.SpConst, A: 2147483648}, "\x01\x80\x80\x80\x80\x78"},
	{impl.Step{Op: impl.SpConst, A: 4294967295}, "\x01\x7f"}, {impl.Step{Op: impl.SpConst, A: 4294967232}, "\x01\x40"}, {impl.Step{Op: impl.SpConst, A: 4294967231}, "\x01\xbf\x7f"},
	{impl.Step{Op: impl.SpGet, A: 0}, "\x02\x00"}, {impl.Step{Op: impl.SpGet, A: 5}, "\x02\x05"},
	{impl.Step{Op: impl.SpSet, A: 0}, "\x03\x00"}, {impl.Step{Op: impl.SpSet, A: 5}, "\x03\x05"},
	{impl.Step{Op: impl.SpTee, A: 0}, "\x04\x00"}, {impl.Step{Op: impl.SpTee, A: 5}, "\x04\x05"},
	{impl.Step{Op: impl.SpBin, A: impl.BoAdd}, "\x05\x01"}, {impl.Step{Op: impl.SpBin, A: impl.BoDiv}, "\x05\x04"}, {impl.Step{Op: impl.SpBin, A: impl.BoBelow}, "\x05\x0c"},
	{impl.Step{Op: impl.SpZero}, "\x06"}, {impl.Step{Op: impl.SpDrop}, "\x07"},
	{impl.Step{Op: impl.SpBlock, A: 0}, "\x08\x00"}, {impl.Step{Op: impl.SpBlock, A: 1}, "\x08\x01"},
	{impl.Step{Op: impl.SpLoop}, "\x09"}, {impl.Step{Op: impl.SpIf, A: 0}, "\x0a\x00"}, {impl.Step{Op: impl.SpIf, A: 1}, "\x0a\x01"},
	{impl.Step{Op: impl.SpElse}, "\x0b"}, {impl.Step{Op: impl.SpEnd}, "\x0c"},
	{impl.Step{Op: impl.SpJump, A: 0}, "\x0d\x00"}, {impl.Step{Op: impl.SpJump, A: 9}, "\x0d\x09"},
	{impl.Step{Op: impl.SpJumpIf, A: 0}, "\x0e\x00"}, {impl.Step{Op: impl.SpJumpIf, A: 9}, "\x0e\x09"},
	{impl.Step{Op: impl.SpReturn}, "\x0f"}, {impl.Step{Op: impl.SpCall, A: 0}, "\x10\x00"}, {impl.Step{Op: impl.SpCall, A: 3}, "\x10\x03"},
	{impl.Step{Op: impl.SpLoad, A: 0}, "\x11\x00"}, {impl.Step{Op: impl.SpLoad, A: 64}, "\x11\x40"}, {impl.Step{Op: impl.SpLoad, A: 127}, "\x11\x7f"}, {impl.Step{Op: impl.SpLoad, A: 128}, "\x11\x80\x01"}, {impl.Step{Op: impl.SpLoad, A: 255}, "\x11\xff\x01"},
	{impl.Step{Op: impl.SpStore, A: 0}, "\x12\x00"}, {impl.Step{Op: impl.SpStore, A: 127}, "\x12\x7f"}, {impl.Step{Op: impl.SpStore, A: 128}, "\x12\x80\x01"}, {impl.Step{Op: impl.SpStore, A: 255}, "\x12\xff\x01"},
	{impl.Step{Op: impl.SpTrap}, "\x13"}, {impl.Step{Op: impl.SpNop}, "\x14"},
}

// rightSteps are the hand-written ones, every A of each kind but SpConst, and SpConst of many words.
func rightSteps() []impl.Step {
	var list []impl.Step
	for _, c := range stepCases {
		list = append(list, c.step)
	}
	for _, k := range kindsOfSteps[1:] {
		for a := k.least; a <= k.greatest; a++ {
			list = append(list, impl.Step{Op: k.op, A: a})
		}
	}
	for _, w := range manyNats() {
		list = append(list, impl.Step{Op: impl.SpConst, A: w})
	}
	return list
}

// wrongSteps have an A just past an edge of their kind, or far off, or one that would do if its last bits were all; or no Op.
func wrongSteps() []impl.Step {
	var list []impl.Step
	for _, k := range kindsOfSteps {
		for _, a := range []int64{k.least - 1, k.greatest + 1, k.least - 4294967296, k.least + 4294967296, k.greatest + 4294967296, leastInt, leastInt + 1, greatestInt, greatestInt - 1} {
			list = append(list, impl.Step{Op: k.op, A: a})
		}
	}
	for _, op := range noOps {
		for _, a := range []int64{-1, 0, 1, 2, 5, 12, 255, 4294967295, leastInt, greatestInt} {
			list = append(list, impl.Step{Op: op, A: a})
		}
	}
	return list
}

// plainSteps writes right Steps by the table above and the plain numbers of chapter 2's tests.
func plainSteps(list []impl.Step) string {
	var text strings.Builder
	for _, s := range list {
		text.WriteByte(byte(s.Op))
		switch {
		case s.Op == 1:
			text.WriteString(plainInt(plainSigned(s.A)))
		case kindsOfSteps[s.Op-1].told:
			text.WriteString(plainNat(s.A))
		}
	}
	return text.String()
}

// manySteps are so many right ones of a fixed sequence, which seed picks.
func manySteps(seed uint64, count int) []impl.Step {
	var list []impl.Step
	all := rightSteps()
	state := seed
	for range count {
		state = state*6364136223846793005 + 1442695040888963407
		list = append(list, all[int(state>>33)%len(all)])
	}
	return list
}

func wantShown(t *testing.T, list []impl.Step, want string) {
	t.Helper()
	if got := impl.ShowSteps(list); got != want {
		t.Fatalf("ShowSteps(%v) = %q, want %q", list, got, want)
	}
}

func TestConstantsOfChapter3(t *testing.T) {
	kinds := []int64{
		impl.SpConst, impl.SpGet, impl.SpSet, impl.SpTee, impl.SpBin, impl.SpZero, impl.SpDrop, impl.SpBlock, impl.SpLoop, impl.SpIf,
		impl.SpElse, impl.SpEnd, impl.SpJump, impl.SpJumpIf, impl.SpReturn, impl.SpCall, impl.SpLoad, impl.SpStore, impl.SpTrap, impl.SpNop,
	}
	for i, k := range kinds {
		if k != int64(i)+1 {
			t.Errorf("kind %d is %d", i+1, k)
		}
	}
	if impl.MaxSteps != 80 {
		t.Errorf("MaxSteps is %d", impl.MaxSteps)
	}
}

func TestStepOkAtTheEdgesOfEachKind(t *testing.T) {
	rows := []struct {
		op    int64
		right []int64
		wrong []int64
	}{
		{impl.SpConst, []int64{0, 1, 2147483647, 2147483648, 4294967295}, []int64{-1, 4294967296}},
		{impl.SpGet, []int64{0, 1, 5}, []int64{-1, 6}}, {impl.SpSet, []int64{0, 1, 5}, []int64{-1, 6}}, {impl.SpTee, []int64{0, 1, 5}, []int64{-1, 6}},
		{impl.SpBin, []int64{impl.BoAdd, impl.BoXor, impl.BoBelow}, []int64{-1, 0, 13}},
		{impl.SpZero, []int64{0}, []int64{-1, 1}}, {impl.SpDrop, []int64{0}, []int64{-1, 1}},
		{impl.SpBlock, []int64{0, 1}, []int64{-1, 2}}, {impl.SpLoop, []int64{0}, []int64{-1, 1}}, {impl.SpIf, []int64{0, 1}, []int64{-1, 2}},
		{impl.SpElse, []int64{0}, []int64{-1, 1}}, {impl.SpEnd, []int64{0}, []int64{-1, 1}},
		{impl.SpJump, []int64{0, 1, 9}, []int64{-1, 10}}, {impl.SpJumpIf, []int64{0, 1, 9}, []int64{-1, 10}}, {impl.SpReturn, []int64{0}, []int64{-1, 1}},
		{impl.SpCall, []int64{0, 1, 3}, []int64{-1, 4}}, {impl.SpLoad, []int64{0, 1, 255}, []int64{-1, 256}}, {impl.SpStore, []int64{0, 1, 255}, []int64{-1, 256}},
		{impl.SpTrap, []int64{0}, []int64{-1, 1}}, {impl.SpNop, []int64{0}, []int64{-1, 1}},
		{0, nil, []int64{-1, 0, 1}}, {-1, nil, []int64{-1, 0, 1}}, {21, nil, []int64{-1, 0, 1}},
	}
	for _, r := range rows {
		for _, a := range r.right {
			if !impl.StepOk(impl.Step{Op: r.op, A: a}) {
				t.Errorf("StepOk of %d, %d is false", r.op, a)
			}
		}
		for _, a := range r.wrong {
			if impl.StepOk(impl.Step{Op: r.op, A: a}) {
				t.Errorf("StepOk of %d, %d is true", r.op, a)
			}
		}
	}
}

func TestStepOkOfAllSmallOnes(t *testing.T) {
	for op := int64(-3); op <= 300; op++ {
		for a := int64(-3); a <= 300; a++ {
			want := op >= 1 && op <= 20 && a >= kindsOfSteps[op-1].least && a <= kindsOfSteps[op-1].greatest
			if impl.StepOk(impl.Step{Op: op, A: a}) != want {
				t.Fatalf("StepOk of %d, %d is not %v", op, a, want)
			}
		}
	}
}

func TestStepOkOfRightAndWrong(t *testing.T) {
	for _, s := range rightSteps() {
		if !impl.StepOk(s) {
			t.Errorf("StepOk(%v) is false", s)
		}
	}
	for _, s := range wrongSteps() {
		if impl.StepOk(s) {
			t.Errorf("StepOk(%v) is true", s)
		}
	}
}

func TestOpens(t *testing.T) {
	for _, s := range rightSteps() {
		if want := s.Op == 8 || s.Op == 9 || s.Op == 10; impl.Opens(s) != want || kindsOfSteps[s.Op-1].opens != want {
			t.Errorf("Opens(%v) is not %v", s, want)
		}
	}
	for _, s := range wrongSteps() {
		if impl.Opens(s) {
			t.Errorf("Opens(%v) is true of a wrong one", s)
		}
	}
	for _, s := range []impl.Step{{Op: impl.SpLoop, A: 1}, {Op: impl.SpLoop, A: -1}, {Op: impl.SpBlock, A: 2}, {Op: impl.SpBlock, A: -1}, {Op: impl.SpIf, A: 2}, {Op: impl.SpIf, A: -1}, {}} {
		if impl.Opens(s) {
			t.Errorf("Opens(%v) is true of a wrong one", s)
		}
	}
}

func TestShowStepsOneByOne(t *testing.T) {
	for _, c := range stepCases {
		wantShown(t, []impl.Step{c.step}, c.text)
	}
	for _, s := range rightSteps() {
		wantShown(t, []impl.Step{s}, plainSteps([]impl.Step{s}))
	}
}

func TestShowStepsInOrder(t *testing.T) {
	list, text := []impl.Step{}, ""
	for _, c := range stepCases {
		list, text = append(list, c.step), text+c.text
		wantShown(t, list, text)
	}
	slices.Reverse(list)
	wantShown(t, list, plainSteps(list))
	for seed := range uint64(200) {
		list := manySteps(seed, int(seed)%81)
		wantShown(t, list, plainSteps(list))
	}
}

func TestShowStepsOfNone(t *testing.T) {
	wantShown(t, nil, "")
	wantShown(t, []impl.Step{}, "")
	wantShown(t, make([]impl.Step, 0, 5), "")
}

func TestShowStepsOfOneWrong(t *testing.T) {
	for _, wrong := range wrongSteps() {
		wantShown(t, []impl.Step{wrong}, "")
		for at := range 4 {
			list := manySteps(uint64(at), 4)
			list[at] = wrong
			wantShown(t, list, "")
		}
	}
	for _, at := range []int{0, 1, 40, 78, 79} {
		list := manySteps(9, 80)
		list[at] = impl.Step{Op: impl.SpNop, A: 1}
		wantShown(t, list, "")
	}
}

func TestShowStepsAtTheLimit(t *testing.T) {
	for _, s := range rightSteps() {
		list := slices.Repeat([]impl.Step{s}, 80)
		wantShown(t, list, strings.Repeat(plainSteps([]impl.Step{s}), 80))
		wantShown(t, append(list, s), "")
	}
	for _, count := range []int{79, 80} {
		wantShown(t, manySteps(3, count), plainSteps(manySteps(3, count)))
	}
	for _, count := range []int{81, 82, 160, 5000} {
		wantShown(t, manySteps(3, count), "")
	}
	wantShown(t, append(manySteps(3, 80), impl.Step{}), "")
}
