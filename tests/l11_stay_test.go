package tests

import (
	"slices"
	"testing"

	"loop.example/g00363/impl"
)

// manyRunnings are made codes of few boxes, in which calls are of codes that are there, numbers are mostly small, and jumps mostly go on.
func manyRunnings(seed uint64, count int) []aRunning {
	maker := newLineMaker(seed)
	words := manyWords()
	var list []aRunning
	for range count {
		q := running().fuelled(int64(1 + maker.next(3000)))
		q.codes = make([][]impl.Line, 1+maker.next(4))
		for k := range q.codes {
			q.codes[k] = maker.lines(1 + maker.next(25))
			for i := range q.codes[k] {
				maker.tame(&q.codes[k][i], i, len(q.codes))
			}
		}
		q.k = int64(maker.next(len(q.codes)))
		for range maker.next(4) {
			q.args = append(q.args, words[maker.next(len(words))])
		}
		q.memory = plainNumbers(manyData(seed+uint64(count), 64))
		list = append(list, q)
	}
	return list
}

// tame is the line at that place, with numbers by which one comes further.
func (m *aLineMaker) tame(l *impl.Line, at, codes int) {
	for _, box := range []*int64{&l.D, &l.A, &l.B} {
		*box %= 6
	}
	switch {
	case l.Kind == impl.LnCall:
		l.N %= int64(codes)
	case l.Kind == impl.LnLoad || l.Kind == impl.LnStore:
		l.N %= 60
	case l.Kind == impl.LnSet && m.next(2) == 0:
		l.N %= 60
	case (l.Kind == impl.LnJump || l.Kind == impl.LnIf) && l.N <= int64(at) && m.next(3) > 0:
		*l = impl.Line{Kind: impl.LnGive, A: l.A}
	}
}

// someRunnings are made ones, and ones by hand that come to each code.
func someRunnings() []aRunning {
	list := manyRunnings(117, 150)
	for _, l := range []impl.Line{lnGive(0), lnTrap(), lnBin(1, 1, 5, impl.BoDiv), lnBin(1, 6, 7, impl.BoDiv), lnLoad(0, 7, 0), lnStore(7, 0, 0), lnStore(5, 0, 8), lnJump(0), lnCall(0, 0), lnCall(0, 1, 2, 1, 0), lnSet(0, -1)} {
		code := []impl.Line{lnSet(6, signBit), lnSet(7, greatestWord), l, lnGive(0)}
		for _, memory := range [][]int64{make([]int64, 64), plainNumbers(manyData(118, 64)), make([]int64, 63)} {
			q := running(code, digitLines()).by(1, 2, 3).on(memory).fuelled(5000)
			list = append(list, q, q.by(), q.by(1, 2, 3, 4), q.by(1, -1), q.of(1), q.of(2), q.fuelled(0), q.fuelled(2), q.fuelled(-1))
		}
	}
	return list
}

// copied is the same with lists of its own.
func (q aRunning) copied() aRunning {
	codes := make([][]impl.Line, 0, len(q.codes))
	for _, list := range q.codes {
		codes = append(codes, copyOfLines(list))
	}
	q.codes, q.args, q.memory = codes, slices.Clone(q.args), slices.Clone(q.memory)
	return q
}

func sameCodes(a, b [][]impl.Line) bool {
	return slices.EqualFunc(a, b, func(x, y []impl.Line) bool { return sameLines(x, y) })
}

// P21: what RunLines answers is new memory each time, of every code.
func TestRunningsAreNewMemory(t *testing.T) {
	codes := map[int64]int{}
	for _, q := range someRunnings() {
		want, ran := q.plain()
		codes[want.Code]++
		first, second := q.outcome(), q.outcome()
		spoil(first.Memory)
		if !sameOutcome(second, want) {
			t.Fatalf("two answers of %v share memory", q)
		}
		spoil(second.Memory)
		wantRunning(t, q, want, ran)
	}
	for code := range int64(8) {
		if codes[code] == 0 {
			t.Fatalf("%v: a code is missing", codes)
		}
	}
}

// P21: what was answered stays as it is when the codes, the arguments or the memory are others.
func TestRunningsStayWhenTheArgumentsChange(t *testing.T) {
	for _, q := range someRunnings() {
		want, _ := q.plain()
		given := q.copied()
		got := given.outcome()
		for _, list := range given.codes {
			spoilLines(list)
		}
		spoil(given.args)
		spoil(given.memory)
		if !sameOutcome(got, want) {
			t.Fatalf("what was answered of %v changes with its arguments", q)
		}
	}
}

// P21: codes, their Lists, args, memory, and the room behind them stay, and that room changes no answer.
func TestWhatIsRunStays(t *testing.T) {
	for _, q := range someRunnings() {
		want, ran := q.plain()
		given := q
		var wholes, kepts [][]impl.Line
		given.codes = nil
		for _, list := range q.codes {
			room, whole := linesInRoom(list, lnTrap(), lnCall(40, 9, -1), lnGive(0))
			given.codes = append(given.codes, room)
			wholes, kepts = append(wholes, whole), append(kepts, withTheRoom(whole))
		}
		behind := []impl.Line{lnGive(0)}
		allCodes := append(given.codes, behind, nil)
		given.codes = allCodes[:len(q.codes)]
		args, allArgs := inRoom(q.args, 5, 8)
		memory, allMemory := inRoom(q.memory, 70, 6)
		keptArgs, keptMemory := slices.Clone(allArgs), slices.Clone(allMemory)
		given.args, given.memory = args, memory
		for range 2 {
			wantRunning(t, given, want, ran)
		}
		for i, whole := range wholes {
			if !sameLines(withTheRoom(whole), kepts[i]) || !sameLines(given.codes[i], q.codes[i]) {
				t.Fatalf("the codes of %v, or the room behind them, are others", q)
			}
		}
		if !sameCodes(allCodes[len(q.codes):], [][]impl.Line{behind, nil}) {
			t.Fatalf("the room behind the codes of %v is another one", q)
		}
		if !slices.Equal(allArgs, keptArgs) || !slices.Equal(allMemory, keptMemory) {
			t.Fatalf("the arguments of %v, the memory, or the room behind them, are others", q)
		}
	}
}

// Codes may be one and the same list, and args and memory pieces of one list: each is as if it were its own.
func TestRunLinesOfListsThatAreShared(t *testing.T) {
	code := []impl.Line{lnStore(0, 1, 4), lnLoad(2, 0, 4), lnIf(2, 4), lnGive(2), lnSet(1, 0), lnCall(3, 1, 0, 1), lnGive(1)}
	whole := slices.Repeat([]int64{3, 7}, 33)
	kept := slices.Clone(whole)
	q := running(code, code).on(whole[:64])
	q.args = whole[1:4]
	want, ran := q.copied().plain()
	wantRunning(t, q, want, ran)
	if !slices.Equal(whole, kept) || want.Code != 0 || slices.Equal(want.Memory, kept[:64]) {
		t.Fatalf("%v of %v", want, whole)
	}
}

// Nothing is kept from call to call: whatever was asked between, the answer is the same.
func TestRunningsAreTheirOwn(t *testing.T) {
	list := someRunnings()
	for i, q := range list {
		want, ran := q.plain()
		wantRunning(t, q, want, ran)
		list[(i*7+3)%len(list)].outcome()
		wantRunning(t, q, want, ran)
	}
}

// Of many made codes, RunLines and Ran are as the plain walk has it, and more fuel than Ran gives the same.
func TestRunLinesOfManyCodes(t *testing.T) {
	codes, stored, long := map[int64]int{}, 0, 0
	for _, q := range manyRunnings(119, 12000) {
		want, ran := wantAsWalked(t, q)
		codes[want.Code]++
		stored += int(flag(!slices.Equal(want.Memory, q.memory)))
		long += int(flag(ran > 30))
		if want.Code == 5 {
			continue
		}
		wantRun(t, q, want, ran)
	}
	for code, least := range map[int64]int{0: 2000, 1: 100, 3: 500, 4: 500, 5: 100, 6: 100} {
		if codes[code] < least {
			t.Fatalf("%v: too few to tell", codes)
		}
	}
	if stored < 300 || long < 300 {
		t.Fatalf("%d of them store, %d are long: too few to tell", stored, long)
	}
}

// P21: whatever is given, both functions answer, and answer as the plain walk does.
func TestRunLinesAnswersAtEveryArgument(t *testing.T) {
	maker := newLineMaker(120)
	numbers := append(append(append(manyNumbers(), noKinds...), noBoxes...), 0, 1, 2, 3, 4, 5, 6, 7, 8, 9, 10, 11, 12)
	number := func() int64 { return numbers[maker.next(len(numbers))] }
	bad, good := 0, 0
	for i, q := range manyRunnings(121, 8000) {
		code := q.codes[maker.next(len(q.codes))]
		at := maker.next(len(code))
		switch i % 16 {
		case 0, 1, 2, 3:
			code[at] = maker.otherLine(code[at], numbers)
		case 4:
			q.k = number()
		case 5:
			q.fuel = number() % (4 * maxTicks)
		case 6:
			q.args = append(q.args, number())
		case 7:
			q.memory[at] = number()
		case 8:
			q.memory = append(q.memory, 0)[:maker.next(66)]
		case 9:
			q.codes = append(q.codes, q.codes...)
		case 10:
			q.codes = q.codes[:maker.next(len(q.codes)+1)]
		case 11:
			q.codes[maker.next(len(q.codes))] = code[:at]
		}
		want, ran := wantAsWalked(t, q)
		if isBad := want.Code == 7; isBad != (ran < 0) || isBad != (len(want.Memory) == 0) {
			t.Fatalf("%v: %v, %d", q, want, ran)
		}
		bad, good = bad+int(flag(want.Code == 7)), good+int(flag(want.Code != 7))
	}
	if bad < 1500 || good < 1500 {
		t.Fatalf("%d are OcBad, %d are not: too few to tell", bad, good)
	}
}
