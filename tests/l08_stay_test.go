package tests

import (
	"slices"
	"testing"

	"loop.example/g00363/impl"
)

// someMeanings are made ones, and ones by hand that come to each code.
func someMeanings() []aMeaning {
	list := manyMeanings(88, 60)
	for _, text := range []string{"end", "const1 const0 bin4 drop end", "const2147483648 const4294967295 bin4 drop end", "const61 load0 drop end", "const0 const1 store61 end", "trap end", "loop jump0 end end", "call0 end", "drop end"} {
		m := onePile(0, text)
		list = append(list, aMeaning{m, 0, nil, 3000}, aMeaning{m, 0, nil, 1}, aMeaning{m, 0, nil, 0}, aMeaning{m, 0, nil, -1}, aMeaning{m, 1, nil, 9})
		m.Data = manyData(89, 64)
		list = append(list, aMeaning{m, 0, nil, 3000}, aMeaning{m, 0, nil, 0})
	}
	for _, args := range [][]int64{{}, {1}, {1, 2, 3}, {1, 2, 3, 4}, {1, -1, 3}} {
		m := aModule(aFunc(3, 3, 1, "const7 set0 const8 set5 get0 get1 get2 call1 end"), aFunc(3, 0, 1, "const1 set2 get0 get1 bin2 end"))
		list = append(list, aMeaning{m, 0, args, 3000}, aMeaning{m, 1, args, 3000})
	}
	return list
}

// P21: what Meant answers is new memory each time, of every code.
func TestOutcomesAreNewMemory(t *testing.T) {
	codes := map[int64]int{}
	for _, q := range someMeanings() {
		want, burnt := plainMeant(q.m, q.k, q.args, q.fuel)
		codes[want.Code]++
		first, second := q.meant(), q.meant()
		spoil(first.Memory)
		if !sameOutcome(second, want) {
			t.Fatalf("two answers of %v share memory", q)
		}
		spoil(second.Memory)
		wantOutcome(t, q, want, burnt)
	}
	for code := range int64(8) {
		if codes[code] == 0 {
			t.Fatalf("%v: a code is missing", codes)
		}
	}
}

// P21: what was answered stays as it is when the module or the arguments are others.
func TestOutcomesStayWhenTheArgumentsChange(t *testing.T) {
	for _, q := range someMeanings() {
		want, _ := plainMeant(q.m, q.k, q.args, q.fuel)
		given := aMeaning{copyOfModule(q.m), q.k, slices.Clone(q.args), q.fuel}
		got := given.meant()
		overwrite(given.m)
		spoil(given.args)
		if !sameOutcome(got, want) {
			t.Fatalf("what was answered of %v changes with its arguments", q)
		}
	}
}

// P21: arguments and the room behind them stay, and that room changes no answer.
func TestWhatIsMeantStays(t *testing.T) {
	for _, q := range someMeanings() {
		want, burnt := plainMeant(q.m, q.k, q.args, q.fuel)
		m, whole := withRoom(q.m)
		args, allArgs := inRoom(q.args, 6, 5)
		kept, keptArgs := wholeBodies(whole), slices.Clone(allArgs)
		given := aMeaning{m, q.k, args, q.fuel}
		for range 2 {
			wantOutcome(t, given, want, burnt)
		}
		if !sameModule(wholeBodies(whole), kept) || m.Data != q.m.Data || len(m.Funcs) != len(q.m.Funcs) {
			t.Fatalf("the module of %v, or the room behind its lists, is another one", q)
		}
		if !slices.Equal(allArgs, keptArgs) {
			t.Fatalf("the arguments of %v, or the room behind them, are others: %v", q, allArgs)
		}
	}
}

// P21: SameOutcome writes into neither of them.
func TestOutcomesGivenStay(t *testing.T) {
	for _, q := range someMeanings()[:80] {
		a, allA := inRoom(q.meant().Memory, 4, 9)
		b, allB := inRoom(q.withFuel(2).meant().Memory, 4, 9)
		keptA, keptB := slices.Clone(allA), slices.Clone(allB)
		impl.SameOutcome(impl.Outcome{Memory: a}, impl.Outcome{Memory: b})
		impl.SameOutcome(impl.Outcome{Memory: a}, impl.Outcome{Memory: a})
		if !slices.Equal(allA, keptA) || !slices.Equal(allB, keptB) {
			t.Fatalf("SameOutcome changes what it is given of %v", q)
		}
	}
}

// Nothing is kept from call to call: whatever was asked between, the answer is the same.
func TestMeaningsAreTheirOwn(t *testing.T) {
	list := someMeanings()
	for i, q := range list {
		want, burnt := plainMeant(q.m, q.k, q.args, q.fuel)
		wantOutcome(t, q, want, burnt)
		other := list[(i*7+3)%len(list)]
		other.meant()
		wantOutcome(t, q, want, burnt)
	}
}

// P21: whatever is given, each function answers, and answers as the plain run does.
func TestMeantAnswersAtEveryArgument(t *testing.T) {
	maker := newPileMaker(90)
	numbers := append(manyNumbers(), noOps...)
	number := func() int64 { return numbers[maker.next(len(numbers))] }
	bad, good := 0, 0
	for i := range 3000 {
		m, _ := maker.madeModule()
		f := &m.Funcs[maker.next(len(m.Funcs))]
		switch maker.next(9) {
		case 0:
			f.Args = number()
		case 1:
			f.Locals, f.Gives = number(), number()
		case 2:
			f.Body[maker.next(len(f.Body))] = impl.Step{Op: number(), A: number()}
		case 3:
			f.Body = append(manySteps(uint64(i), i%6), impl.Step{Op: impl.SpEnd})
		case 4:
			*f = maker.otherPile(*f)
		case 5:
			m.Data = manyData(uint64(i), maker.next(130))
		}
		k, fuel := int64(maker.next(len(m.Funcs))), int64(maker.next(3000))
		args := make([]int64, min(max(m.Funcs[k].Args, 0), 5))
		for j := range args {
			args[j] = edgeWords[maker.next(len(edgeWords))]
		}
		switch maker.next(12) {
		case 0:
			k = number()
		case 1:
			fuel = number()
		case 2:
			args = append(args, number())
		case 3:
			if len(args) > 0 {
				args[maker.next(len(args))] = number()
			}
		}
		want, burnt := wantAsPlain(t, aMeaning{m, k, args, fuel})
		if isBad := want.Code == 7; isBad != (burnt < 0) || isBad != (len(want.Memory) == 0) {
			t.Fatalf("%v: %v, %d", aMeaning{m, k, args, fuel}, want, burnt)
		}
		bad, good = bad+int(flag(want.Code == 7)), good+int(flag(want.Code != 7))
	}
	if bad < 500 || good < 500 {
		t.Fatalf("%d are OcBad, %d are not: too few to tell", bad, good)
	}
}
