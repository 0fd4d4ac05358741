package tests

import (
	"slices"
	"testing"

	"loop.example/g00363/impl"
)

// Valid is true where each Func is accepted; one that is not is enough, wherever it stands.
func TestValidAsksAllFuncs(t *testing.T) {
	right := []impl.Func{aFunc(0, 0, 0, "end"), aFunc(1, 0, 1, "get0 end"), aFunc(2, 1, 0, "get0 set2 end"), aFunc(0, 0, 0, "trap drop end")}
	wrong := []impl.Func{aFunc(0, 0, 0, ""), aFunc(0, 0, 0, "drop end"), aFunc(0, 0, 1, "end"), aFunc(0, 0, 0, "get0 drop end"), aFunc(0, 0, 0, "jump1 end"), aFunc(0, 0, 0, times(21, "const")+"trap end"), aFunc(0, 0, 0, "const if1 const end drop end"), aFunc(0, 0, 0, "end end")}
	for count := 1; count <= 4; count++ {
		if m := aModule(right[:count]...); !impl.Valid(m) {
			t.Fatalf("Valid is false of %s", showPiles(m))
		}
		for at := range count {
			for _, f := range wrong {
				funcs := slices.Clone(right[:count])
				funcs[at] = f
				m := aModule(funcs...)
				if impl.Valid(m) {
					t.Fatalf("Valid is true of %s", showPiles(m))
				}
				for k := range count {
					if got := impl.Accepts(m, int64(k)); got != (k != at) {
						t.Fatalf("Accepts(%s, %d) is %v", showPiles(m), k, got)
					}
				}
			}
		}
	}
	if impl.Valid(aModule(aFunc(0, 0, 0, "call1 end"))) || !impl.Valid(aModule(aFunc(0, 0, 0, "call1 end"), right[0])) {
		t.Fatal("a Func that is called counts where it is there, and only there")
	}
}

// What a call takes and gives hangs on the other Func, not on whether that one is accepted.
func TestACalledFuncMayBeRefusedItself(t *testing.T) {
	m := aModule(aFunc(0, 0, 1, "const const call1 end"), aFunc(2, 0, 1, "drop"))
	wantHeights(t, m, 0, []int64{0, 1, 2, 1}, 2)
	wantRefused(t, m, 1)
	if impl.Valid(m) {
		t.Fatalf("Valid is true of %s", showPiles(m))
	}
}

// Highest is at least Gives, though nothing ever stands there, and else the greatest that stands ahead of or behind a Step.
func TestHighest(t *testing.T) {
	for _, c := range []struct {
		gives int64
		text  string
		want  int64
	}{
		{0, "end", 0}, {0, "trap end", 0}, {1, "trap end", 1}, {1, "trap const const end", 1}, {1, "loop jump0 end trap end", 1}, {0, "loop jump0 end trap end", 0},
		{1, "const end", 1}, {0, "const trap end", 1}, {1, "const trap end", 1}, {0, "const drop end", 1}, {0, "const const const trap end", 3},
		{0, "block1 trap end trap end", 1}, {0, "const const block1 trap end trap end", 3}, {1, "const const drop drop trap end", 2}, {0, "trap const const const end", 0}, {0, "const if0 const const store end end", 2},
		{0, times(20, "const") + "trap end", 20}, {1, times(19, "const") + "block1 trap end return end", 20}, {0, "const if0 trap const const const else end end", 1},
	} {
		m := onePile(c.gives, c.text)
		if got := impl.Highest(m, 0); got != c.want {
			t.Fatalf("Highest(%s) = %d, want %d", showPiles(m), got, c.want)
		}
		wantAsLooked(t, m, 0)
	}
}

// behindStep is how many stand behind a Step that one comes to, where one goes on from it to the one that follows; -1 where one does not.
func behindStep(m impl.Module, s impl.Step, ahead int64) int64 {
	switch {
	case ahead < 0 || s.Op == 11 || s.Op == 13 || s.Op == 15 || s.Op == 19:
		return -1
	case s.Op == 16:
		return ahead - m.Funcs[s.A].Args + m.Funcs[s.A].Gives
	}
	return ahead - takesPuts[s.Op-1][0] + takesPuts[s.Op-1][1]
}

// What stands behind a Step stands ahead of the next, and Highest is the greatest of all of these and Gives.
func TestHeightsAheadAndBehindAreAlike(t *testing.T) {
	maker := newPileMaker(3)
	for range 800 {
		m, _ := maker.madeModule()
		for k, f := range m.Funcs {
			heights, _ := impl.Heights(m, int64(k))
			if len(heights) != len(f.Body) || heights[0] != 0 {
				t.Fatalf("Heights(%s, %d) = %v", showPiles(m), k, heights)
			}
			greatest := f.Gives
			for i, s := range f.Body {
				behind := behindStep(m, s, heights[i])
				greatest = max(greatest, heights[i], behind)
				if heights[i] < -1 || i < len(heights)-1 && behind >= 0 && heights[i+1] != behind {
					t.Fatalf("Heights(%s, %d) = %v: at %d", showPiles(m), k, heights, i)
				}
			}
			if got := impl.Highest(m, int64(k)); got != greatest {
				t.Fatalf("Highest(%s, %d) = %d, want %d", showPiles(m), k, got, greatest)
			}
		}
	}
}

// P21: an answer is new memory; none shares any with another one.
func TestHeightsAreNewMemory(t *testing.T) {
	maker := newPileMaker(4)
	for range 150 {
		m, want := maker.madeModule()
		for k := range m.Funcs {
			first, _ := impl.Heights(m, int64(k))
			second, _ := impl.Heights(m, int64(k))
			spoil(first)
			if !slices.Equal(second, want[k]) {
				t.Fatalf("Heights of %s shares memory", showPiles(m))
			}
		}
		for k := range m.Funcs {
			wantAsLooked(t, m, int64(k))
		}
	}
	for _, text := range []string{"", "drop end", "end end", "jump1 end"} {
		none, _ := impl.Heights(onePile(0, text), 0)
		spoil(none)
		wantRefused(t, onePile(0, text), 0)
	}
}

// P21: an answer stays as it is when the module is another one.
func TestHeightsStayWhenTheModuleChanges(t *testing.T) {
	m := onePile(1, "const const bin end")
	heights, _ := impl.Heights(m, 0)
	for i := range m.Funcs[0].Body {
		m.Funcs[0].Body[i] = impl.Step{Op: impl.SpNop}
	}
	m.Funcs[0] = impl.Func{}
	if !slices.Equal(heights, []int64{0, 1, 2, 1}) {
		t.Fatalf("what was answered changes with the module: %v", heights)
	}
}

// P21: arguments and the room behind them stay, and that room changes no answer.
func TestModulesThatAreLookedOverStay(t *testing.T) {
	maker := newPileMaker(5)
	list := append(rightModules()[:60], wrongModules()[:60]...)
	for i := range 150 {
		m, _ := maker.madeModule()
		if i%2 == 0 {
			m.Funcs[0] = maker.otherPile(m.Funcs[0])
		}
		list = append(list, m)
	}
	for _, m := range list {
		given, whole := withRoom(m)
		kept := wholeBodies(whole)
		for k := int64(-1); k <= int64(len(m.Funcs)); k++ {
			wantAsLooked(t, given, k)
			wantAsLooked(t, m, k)
			if impl.Valid(given) != impl.Valid(m) {
				t.Fatalf("Valid is another one of %s with room behind its lists", showPiles(m))
			}
		}
		if !sameModule(wholeBodies(whole), kept) || given.Data != m.Data {
			t.Fatalf("%s, or the room behind its lists, is another one", showPiles(m))
		}
	}
	// With what stands behind it, the first would be a body, and the second none any more.
	whole := pileSteps("const drop end end")
	wantRefused(t, aModule(impl.Func{Body: whole[:2]}), 0)
	wantHeights(t, aModule(impl.Func{Body: whole[:3]}), 0, []int64{0, 1, 0}, 1)
	funcs := []impl.Func{aFunc(0, 0, 0, "call1 end"), aFunc(0, 0, 0, "end")}
	wantRefused(t, impl.Module{Funcs: funcs[:1]}, 0)
	wantRefused(t, impl.Module{Funcs: funcs[:1]}, 1)
}

// An empty list and nil are alike: no Funcs are no module, and no Steps are no body.
func TestLookedOverOfEmptyAndNil(t *testing.T) {
	for _, funcs := range [][]impl.Func{nil, {}, make([]impl.Func, 0, 5), {aFunc(0, 0, 0, "end")}} {
		m := impl.Module{Funcs: funcs[:0]}
		for _, k := range []int64{-1, 0, 1} {
			wantRefused(t, m, k)
		}
		if impl.Valid(m) {
			t.Fatalf("Valid is true without Funcs (%#v)", m)
		}
	}
	for _, body := range [][]impl.Step{nil, {}, make([]impl.Step, 0, 5), pileSteps("end")[:0]} {
		for gives := range int64(2) {
			m := aModule(impl.Func{Gives: gives, Body: body}, aFunc(0, 0, 0, "call0 "+times(int(gives), "drop")+"end"))
			wantRefused(t, m, 0)
			wantAsLooked(t, m, 1)
			if !impl.Accepts(m, 1) || impl.Valid(m) {
				t.Fatalf("a Func without Steps (%#v)", m)
			}
		}
	}
}

// P21: whatever is given, each function answers, and answers the same again.
func TestLookedOverAnswersAtEveryArgument(t *testing.T) {
	maker := newPileMaker(6)
	numbers := append(manyNumbers(), noOps...)
	number := func() int64 { return numbers[maker.next(len(numbers))] }
	for i := range 6000 {
		m, _ := maker.madeModule()
		f := &m.Funcs[maker.next(len(m.Funcs))]
		switch maker.next(6) {
		case 0:
			f.Args = number()
		case 1:
			f.Locals, f.Gives = number(), number()
		case 2:
			f.Body[maker.next(len(f.Body))] = impl.Step{Op: number(), A: number()}
		case 3:
			f.Body = manySteps(uint64(i), i%90)
		case 4:
			f.Body = append(manySteps(uint64(i), i%6), impl.Step{Op: impl.SpEnd})
		case 5:
			m.Funcs = slices.Repeat(m.Funcs, maker.next(3))
		}
		for _, k := range []int64{0, 1, 2, 3, number(), number()} {
			heights, is := impl.Heights(m, k)
			again, still := impl.Heights(m, k)
			if is != still || !slices.Equal(heights, again) || is != impl.Accepts(m, k) || is != (impl.Highest(m, k) >= 0) || impl.Highest(m, k) != impl.Highest(m, k) || impl.Valid(m) != impl.Valid(m) {
				t.Fatalf("two answers at %s, %d", showPiles(m), k)
			}
			wantAsLooked(t, m, k)
		}
	}
}
