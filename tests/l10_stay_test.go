package tests

import (
	"slices"
	"testing"

	"loop.example/g00363/impl"
)

// someModules are made ones, ones by hand, and ones that are not Valid.
func someModules() []impl.Module {
	list := append(wrongModules()[:120], rightModules()[:60]...)
	maker := newPileMaker(102)
	for i := range 300 {
		m, _ := maker.madeModule()
		if i%4 == 0 {
			k := maker.next(len(m.Funcs))
			m.Funcs[k] = maker.otherPile(m.Funcs[k])
		}
		list = append(list, m)
	}
	call := "get0 get1 get2 call1 drop get2 get1 get0 call1 end"
	for _, text := range []string{call, "const1 " + call, "drop " + call, call[:3]} {
		list = append(list, aModule(aFunc(3, 1, 1, text), aFunc(3, 3, 1, text)))
	}
	return list
}

// spoilLines fills all there is of an answer, and the room behind it.
func spoilLines(list []impl.Line) {
	whole := list[:cap(list)]
	for i := range whole {
		spoil(whole[i].List)
		whole[i] = impl.Line{Kind: -1, D: -1, A: -1, B: -1, N: -1}
	}
}

func TestLoweredOfNoFunc(t *testing.T) {
	for count := int64(1); count <= 4; count++ {
		funcs := []impl.Func{aFunc(0, 0, 1, "const10 end"), aFunc(0, 0, 1, "const11 end"), aFunc(0, 0, 1, "const12 end"), aFunc(0, 0, 1, "const13 end")}
		m := aModule(funcs[:count]...)
		for k := range count {
			wantLowered(t, m, k, []impl.Line{lnSet(0, 10+k), lnGive(0)})
		}
		for _, k := range numbersOutside(count) {
			if k < 0 || k >= count {
				wantLowered(t, m, k, nil)
			}
		}
	}
}

// A module that is not Valid has nothing, also of the Funcs that would be accepted by themselves.
func TestLoweredOfModulesThatAreNotValid(t *testing.T) {
	for _, m := range wrongModules() {
		if wantAllLowered(t, m) {
			t.Fatalf("%s is lowered", showPiles(m))
		}
		for _, k := range []int64{-1, 0, 1, 3, 4} {
			wantLowered(t, m, k, nil)
		}
	}
	right := aFunc(0, 0, 1, "const1 end")
	wrong := []impl.Func{aFunc(0, 0, 1, "end"), aFunc(0, 0, 0, "const1 end"), aFunc(0, 0, 0, "get0 drop end"), aFunc(1, 1, 0, "get2 drop end"), aFunc(0, 0, 0, "jump1 end"), aFunc(0, 0, 0, "trap jump1 end"), aFunc(0, 0, 0, "trap call3 end"), aFunc(0, 0, 0, "drop end"), aFunc(0, 0, 0, ""), aFunc(0, 0, 0, "nop"), aFunc(0, 0, 0, "end end"), aFunc(0, 0, 0, "block0 end"), aFunc(0, 0, 0, times(21, "const")+"trap end"), aFunc(0, 0, 0, "const1 if1 const1 end drop end")}
	for _, f := range wrong {
		for at := range 3 {
			funcs := []impl.Func{right, right, right}
			funcs[at] = f
			for k := int64(-1); k <= 3; k++ {
				wantLowered(t, aModule(funcs...), k, nil)
			}
			if all, is := impl.AllLowered(aModule(funcs...)); is || len(all) != 0 {
				t.Fatalf("AllLowered(%s) = %v, %v", showPiles(aModule(funcs...)), all, is)
			}
		}
	}
}

func TestAllLowered(t *testing.T) {
	funcs := []impl.Func{aFunc(0, 0, 1, "const10 end"), aFunc(1, 0, 1, "get0 call0 bin1 end"), aFunc(0, 2, 0, "end"), aFunc(0, 0, 0, "call3 end")}
	want := [][]impl.Line{
		{lnSet(0, 10), lnGive(0)},
		{lnMove(1, 0), lnCall(2, 0), lnBin(1, 1, 2, 1), lnGive(1)},
		{lnSet(0, 0), lnSet(1, 0), lnSet(22, 0), lnGive(22)},
		{lnCall(20, 3), lnSet(20, 0), lnGive(20)},
	}
	for count := 1; count <= 4; count++ {
		m := aModule(funcs[:count]...)
		for _, data := range []string{"", "abc", manyData(1, 64)} {
			m.Data = data
			all, is := impl.AllLowered(m)
			if !is || len(all) != count {
				t.Fatalf("AllLowered(%s) = %v, %v", showPiles(m), all, is)
			}
			for k, list := range all {
				if !sameLines(list, want[k]) {
					t.Fatalf("Func %d is %s", k, showLines(list))
				}
			}
		}
		m.Data = manyData(1, 65)
		if all, is := impl.AllLowered(m); is || len(all) != 0 {
			t.Fatalf("AllLowered of too much Data: %v", all)
		}
	}
	if all, is := impl.AllLowered(aModule(append(slices.Clone(funcs), funcs[0])...)); is || len(all) != 0 {
		t.Fatalf("AllLowered of five Funcs: %v", all)
	}
	if all, is := impl.AllLowered(impl.Module{}); is || len(all) != 0 {
		t.Fatalf("AllLowered of no Funcs: %v", all)
	}
}

// SpareOf asks only whether a Func is right, not whether it is accepted.
func TestSpareOf(t *testing.T) {
	for i := range int64(16) {
		args, locals := i%4, i/4
		for _, text := range []string{"", "end", "drop", "get5 jump9 else", times(80, "nop")} {
			for gives := range int64(2) {
				if got := impl.SpareOf(aFunc(args, locals, gives, text)); got != args+locals+20 {
					t.Fatalf("SpareOf(%d, %d, %d, %q) = %d", args, locals, gives, text, got)
				}
			}
		}
	}
	for _, f := range wrongFuncs() {
		if got := impl.SpareOf(f); got != -1 {
			t.Fatalf("SpareOf(%v) = %d, want -1", f, got)
		}
	}
	for _, n := range append(manyNumbers(), -1, 4, -20, 4294967296) {
		if n >= 0 && n <= 3 {
			continue
		}
		for _, f := range []impl.Func{{Args: n}, {Locals: n}, {Gives: 2 + max(n, 0)}, {Gives: min(n, -1)}, {Args: n, Locals: n, Gives: n}} {
			if got := impl.SpareOf(f); got != -1 {
				t.Fatalf("SpareOf(%v) = %d, want -1", f, got)
			}
		}
	}
	if got := impl.SpareOf(aFunc(3, 3, 1, times(81, "nop"))); got != -1 {
		t.Fatalf("SpareOf of too many Steps = %d", got)
	}
	if got := impl.SpareOf(impl.Func{}); got != 20 {
		t.Fatalf("SpareOf of the zero Func = %d", got)
	}
}

// P21: an answer is new memory, each line's List and each list of AllLowered too.
func TestLoweredIsNewMemory(t *testing.T) {
	calls := 0
	for _, m := range someModules() {
		kept := copyOfModule(m)
		all, _ := impl.AllLowered(m)
		again, _ := impl.AllLowered(m)
		for k := range all {
			want := plainLowered(kept, int64(k))
			single, other := impl.Lowered(m, int64(k)), impl.Lowered(m, int64(k))
			spoilLines(single)
			if !sameLines(other, want) || !sameLines(all[k], want) || !sameLines(again[k], want) {
				t.Fatalf("answers of %s, Func %d, share memory", showPiles(kept), k)
			}
			for i := range all[k] {
				calls += len(all[k][i].List)
				spoil(all[k][i].List)
				all[k][i].List = want[i].List
				if !sameLines(all[k][i+1:], want[i+1:]) {
					t.Fatalf("the Lists of one answer share memory: %s", showLines(all[k]))
				}
			}
			spoilLines(all[k])
			all[k] = nil
			for j := k + 1; j < len(all); j++ {
				if !sameLines(all[j], plainLowered(kept, int64(j))) {
					t.Fatalf("the lists of AllLowered(%s) share memory", showPiles(kept))
				}
			}
		}
		if !sameModule(m, kept) {
			t.Fatalf("%s has become %s", showPiles(kept), showPiles(m))
		}
		wantAllLowered(t, m)
	}
	if calls < 100 {
		t.Fatalf("%d boxes in Lists: too few to tell", calls)
	}
}

// P21: what was answered stays as it is when the module is another one.
func TestLoweredStaysWhenTheModuleChanges(t *testing.T) {
	for _, m := range someModules() {
		given := copyOfModule(m)
		all, _ := impl.AllLowered(given)
		first := impl.Lowered(given, 0)
		overwrite(given)
		for k := range all {
			if !sameLines(all[k], plainLowered(m, int64(k))) {
				t.Fatalf("what was answered of %s changes with it", showPiles(m))
			}
		}
		if !sameLines(first, plainLowered(m, 0)) {
			t.Fatalf("what was answered of %s changes with it", showPiles(m))
		}
	}
}

// P21: modules and the room behind their lists stay, and that room changes no answer.
func TestWhatIsLoweredStays(t *testing.T) {
	for _, m := range someModules() {
		given, whole := withRoom(m)
		kept := wholeBodies(whole)
		for range 2 {
			wantAllLowered(t, given)
			for i, f := range given.Funcs {
				if impl.SpareOf(f) != impl.SpareOf(m.Funcs[i]) {
					t.Fatalf("another SpareOf of %s with room behind its Body", showPile(f))
				}
			}
		}
		for k := range int64(5) {
			if !sameLines(impl.Lowered(given, k), plainLowered(m, k)) {
				t.Fatalf("other lines of %s with room behind its lists", showPiles(m))
			}
		}
		if !sameModule(wholeBodies(whole), kept) || given.Data != m.Data {
			t.Fatalf("%s, or the room behind its lists, is another one", showPiles(m))
		}
	}
}

// Nothing is kept from call to call: whatever was asked between, the answer is the same.
func TestLoweringsAreTheirOwn(t *testing.T) {
	list := someModules()
	for i, m := range list {
		wantAllLowered(t, m)
		wantAllLowered(t, list[(i*7+3)%len(list)])
		wantAllLowered(t, m)
	}
}

// P21: whatever is given, each function answers, and answers as the plain lowering does.
func TestLoweredAnswersAtEveryArgument(t *testing.T) {
	maker := newPileMaker(103)
	numbers := append(manyNumbers(), noOps...)
	number := func() int64 { return numbers[maker.next(len(numbers))] }
	counts := map[bool]int{}
	for i := range 2500 {
		m, _ := maker.madeModule()
		f := &m.Funcs[maker.next(len(m.Funcs))]
		switch maker.next(8) {
		case 0:
			f.Args = number()
		case 1:
			f.Locals, f.Gives = number(), number()
		case 2:
			f.Body[maker.next(len(f.Body))] = impl.Step{Op: number(), A: number()}
		case 3:
			f.Body = append(manySteps(uint64(i), i%6), impl.Step{Op: impl.SpEnd})
		case 4:
			*f = maker.otherPile(*f)
		case 5:
			m.Data = manyData(uint64(i), maker.next(130))
		}
		counts[wantAllLowered(t, m)]++
		if k := number(); !sameLines(impl.Lowered(m, k), plainLowered(m, k)) {
			t.Fatalf("Lowered(%s, %d) = %v", showPiles(m), k, impl.Lowered(m, k))
		}
		if got, width := impl.SpareOf(*f), impl.Width(*f); width < 0 && got != -1 || width >= 0 && got != width+20 {
			t.Fatalf("SpareOf(%s) = %d, its Width is %d", showPile(*f), got, width)
		}
	}
	if counts[true] < 500 || counts[false] < 500 {
		t.Fatalf("%v: too few to tell", counts)
	}
}
