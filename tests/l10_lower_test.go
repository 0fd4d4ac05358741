package tests

import (
	"fmt"
	"slices"
	"testing"

	"loop.example/g00363/impl"
)

// aLowering is what a text becomes, told by hand as if there were no locals: box h is what stands at height h, -1-i is local i, and 20 the spare one. What ends each Func is left out.
type aLowering struct {
	gives int64
	text  string
	lines []impl.Line
}

// fromLocals is a line as it stands where there are locals, so many of them set to 0 ahead of all others.
func fromLocals(l impl.Line, width, locals int64) impl.Line {
	place := func(told bool, box int64) int64 {
		switch {
		case !told:
			return 0
		case box < 0:
			return -1 - box
		}
		return width + box
	}
	r := lineRules[l.Kind-1]
	l.D, l.A, l.B = place(r.d, l.D), place(r.a, l.A), place(r.b, l.B)
	list := slices.Clone(l.List)
	for i, box := range l.List {
		list[i] = place(true, box)
	}
	l.List = list
	if l.Kind == 5 || l.Kind == 6 {
		l.N += locals
	}
	return l
}

// whole has what stands ahead of all Steps and behind them, too.
func (c aLowering) whole(args, locals int64) []impl.Line {
	var list []impl.Line
	for i := range locals {
		list = append(list, lnSet(args+i, 0))
	}
	width := args + locals
	for _, l := range c.lines {
		list = append(list, fromLocals(l, width, locals))
	}
	if c.gives == 1 {
		return append(list, lnGive(width))
	}
	return append(list, lnSet(width+20, 0), lnGive(width+20))
}

// wantLowerings asks of each case with all Args and Locals there may be; callees stand behind the Func that is asked for.
func wantLowerings(t *testing.T, cases []aLowering, callees ...impl.Func) {
	t.Helper()
	for _, c := range cases {
		asked := 0
		for i := range int64(16) {
			args, locals := i%4, i/4
			f := aFunc(args, locals, c.gives, c.text)
			if slices.ContainsFunc(f.Body, func(s impl.Step) bool { return s.Op >= 2 && s.Op <= 4 && s.A >= args+locals }) {
				continue
			}
			wantLowered(t, aModule(append([]impl.Func{f}, callees...)...), 0, c.whole(args, locals))
			asked++
		}
		if asked == 0 {
			t.Fatalf("%q was asked of no Func", c.text)
		}
	}
}

// The document's words of a Func with nothing to do: its locals behind Args are set to 0, and it gives.
func TestLoweredOfNothing(t *testing.T) {
	wantLowered(t, onePile(0, "end"), 0, []impl.Line{lnSet(20, 0), lnGive(20)})
	wantLowered(t, onePile(1, "trap end"), 0, []impl.Line{lnTrap(), lnGive(0)})
	wantLowered(t, aModule(aFunc(0, 1, 0, "end")), 0, []impl.Line{lnSet(0, 0), lnSet(21, 0), lnGive(21)})
	wantLowered(t, aModule(aFunc(1, 0, 0, "end")), 0, []impl.Line{lnSet(21, 0), lnGive(21)})
	wantLowered(t, aModule(aFunc(2, 1, 1, "get2 end")), 0, []impl.Line{lnSet(2, 0), lnMove(3, 2), lnGive(3)})
	wantLowered(t, aModule(aFunc(0, 3, 0, "end")), 0, []impl.Line{lnSet(0, 0), lnSet(1, 0), lnSet(2, 0), lnSet(23, 0), lnGive(23)})
	wantLowered(t, aModule(aFunc(3, 0, 1, "get0 end")), 0, []impl.Line{lnMove(3, 0), lnGive(3)})
	wantLowered(t, aModule(aFunc(3, 3, 0, "end")), 0, []impl.Line{lnSet(3, 0), lnSet(4, 0), lnSet(5, 0), lnSet(26, 0), lnGive(26)})
	wantLowered(t, aModule(aFunc(3, 3, 1, "const9 end")), 0, []impl.Line{lnSet(3, 0), lnSet(4, 0), lnSet(5, 0), lnSet(6, 9), lnGive(6)})
	wantLowerings(t, []aLowering{{0, "end", nil}, {0, "nop nop end", nil}, {1, "trap end", []impl.Line{lnTrap()}}})
}

// Each kind of Step that opens nothing and goes nowhere, on the lowest it may stand and higher up.
func TestLoweredOfEachKind(t *testing.T) {
	wantLowerings(t, []aLowering{
		{1, "const7 end", []impl.Line{lnSet(0, 7)}},
		{1, "const0 end", []impl.Line{lnSet(0, 0)}},
		{1, "const4294967295 end", []impl.Line{lnSet(0, 4294967295)}},
		{0, "const1 const2147483648 const3 trap end", []impl.Line{lnSet(0, 1), lnSet(1, 2147483648), lnSet(2, 3), lnTrap()}},
		{1, "get0 end", []impl.Line{lnMove(0, -1)}},
		{0, "const5 get2 trap end", []impl.Line{lnSet(0, 5), lnMove(1, -3), lnTrap()}},
		{0, "get5 get4 get0 drop drop drop end", []impl.Line{lnMove(0, -6), lnMove(1, -5), lnMove(2, -1)}},
		{0, "const5 set0 end", []impl.Line{lnSet(0, 5), lnMove(-1, 0)}},
		{1, "const5 const6 set3 end", []impl.Line{lnSet(0, 5), lnSet(1, 6), lnMove(-4, 1)}},
		{1, "const5 tee0 end", []impl.Line{lnSet(0, 5), lnMove(-1, 0)}},
		{1, "const5 const6 tee5 drop end", []impl.Line{lnSet(0, 5), lnSet(1, 6), lnMove(-6, 1)}},
		{1, "const5 zero end", []impl.Line{lnSet(0, 5), lnZero(0, 0)}},
		{1, "const5 const6 zero drop end", []impl.Line{lnSet(0, 5), lnSet(1, 6), lnZero(1, 1)}},
		{0, "const5 drop const6 drop end", []impl.Line{lnSet(0, 5), lnSet(0, 6)}},
		{1, "const5 load0 end", []impl.Line{lnSet(0, 5), lnLoad(0, 0, 0)}},
		{1, "const5 const6 load255 drop end", []impl.Line{lnSet(0, 5), lnSet(1, 6), lnLoad(1, 1, 255)}},
		{0, "const5 const6 store0 end", []impl.Line{lnSet(0, 5), lnSet(1, 6), lnStore(0, 1, 0)}},
		{1, "const4 const5 const6 store255 end", []impl.Line{lnSet(0, 4), lnSet(1, 5), lnSet(2, 6), lnStore(1, 2, 255)}},
		{1, "nop const5 nop end", []impl.Line{lnSet(0, 5)}},
		{0, "block0 end loop end end", nil},
		{1, "block1 const5 end end", []impl.Line{lnSet(0, 5)}},
		{1, "const4 loop const5 drop end end", []impl.Line{lnSet(0, 4), lnSet(1, 5)}},
		{0, "trap end", []impl.Line{lnTrap()}},
		{0, "const5 trap end", []impl.Line{lnSet(0, 5), lnTrap()}},
	})
	for kind := int64(1); kind <= 12; kind++ {
		wantLowerings(t, []aLowering{
			{1, fmt.Sprintf("const5 const6 bin%d end", kind), []impl.Line{lnSet(0, 5), lnSet(1, 6), lnBin(0, 0, 1, kind)}},
			{1, fmt.Sprintf("const4 const5 const6 bin%d drop end", kind), []impl.Line{lnSet(0, 4), lnSet(1, 5), lnSet(2, 6), lnBin(1, 1, 2, kind)}},
		})
	}
}

// Up to MaxHeight: the uppermost box is one below the spare one.
func TestLoweredUpToMaxHeight(t *testing.T) {
	var up []impl.Line
	for h := range int64(20) {
		up = append(up, lnSet(h, h+1))
	}
	climb := ""
	for h := 1; h <= 20; h++ {
		climb += fmt.Sprintf("const%d ", h)
	}
	more := func(lines ...impl.Line) []impl.Line { return append(slices.Clone(up), lines...) }
	wantLowerings(t, []aLowering{
		{0, climb + times(20, "drop") + "end", up},
		{1, climb + "return end", more(lnMove(0, 19), lnJump(22))},
		{0, climb + "zero tee0 store7 trap end", more(lnZero(19, 19), lnMove(-1, 19), lnStore(18, 19, 7), lnTrap())},
		{0, climb + "bin1 get0 trap end", more(lnBin(18, 18, 19, 1), lnMove(19, -1), lnTrap())},
		{1, climb + "jumpif0 return end", more(lnZero(19, 19), lnIf(19, 24), lnMove(0, 18), lnJump(26), lnMove(0, 18), lnJump(26))},
	})
	wantLowered(t, onePile(0, climb+"const end"), 0, nil)
	wantLowered(t, onePile(0, climb+"get0 end"), 0, nil)
	// Each height has a box of its own, whichever Step puts there.
	for height := range int64(20) {
		text := times(int(height), "const9") + "get0 trap end"
		list := append(slices.Repeat([]impl.Line{{}}, int(height)), lnMove(1+height, 0), lnTrap(), lnSet(21, 0), lnGive(21))
		for i := range height {
			list[i] = lnSet(1+i, 9)
		}
		wantLowered(t, aModule(aFunc(1, 0, 0, text)), 0, list)
	}
}

// The longest that may be is well below MaxRows, and all of it is there.
func TestLoweredOfTheLongest(t *testing.T) {
	text := "const const " + times(38, "const jumpif0") + "return end"
	m := aModule(aFunc(3, 3, 1, text))
	want := plainLowered(m, 0)
	if len(m.Funcs[0].Body) != 80 || len(want) != 3+2+38*5+2+1 {
		t.Fatalf("%d Steps, %d lines", len(m.Funcs[0].Body), len(want))
	}
	wantLowered(t, m, 0, want)
	wantLowered(t, onePile(1, "const "+times(39, "const jumpif0")+"end"), 0, plainLowered(onePile(1, "const "+times(39, "const jumpif0")+"end"), 0))
	wantLowered(t, onePile(0, times(79, "nop")+"end"), 0, []impl.Line{lnSet(20, 0), lnGive(20)})
	wantLowered(t, onePile(0, times(79, "call0")+"end"), 0, append(slices.Repeat([]impl.Line{lnCall(20, 0)}, 79), lnSet(20, 0), lnGive(20)))
	wantLowered(t, onePile(0, times(80, "nop")+"end"), 0, nil)
}

// A call hands over the uppermost boxes in order, and what it gives stands where the lowest of them was.
func TestLoweredOfCalls(t *testing.T) {
	gives := func(args, gives int64) impl.Func { return aFunc(args, 1, gives, "trap end") }
	for more := range int64(4) {
		for args := range int64(4) {
			var ahead []impl.Line
			call, list := lnCall(20, 1), []int64{}
			for h := range more + args {
				ahead = append(ahead, lnSet(h, 9))
				if h >= more {
					list = append(list, h)
				}
			}
			call.List = list
			text := times(int(more+args), "const9") + "call1 trap end"
			wantLowerings(t, []aLowering{{0, text, append(slices.Clone(ahead), call, lnTrap())}}, gives(args, 0))
			call.D = more
			wantLowerings(t, []aLowering{{0, text, append(slices.Clone(ahead), call, lnTrap())}}, gives(args, 1))
		}
	}
	wantLowerings(t, []aLowering{
		{1, "call1 call2 call1 call1 call2 call3 end", []impl.Line{lnCall(0, 1), lnCall(0, 2, 0), lnCall(1, 1), lnCall(2, 1), lnCall(2, 2, 2), lnCall(0, 3, 0, 1, 2)}},
	}, aFunc(0, 0, 1, "const1 end"), aFunc(1, 0, 1, "const1 end"), aFunc(3, 0, 1, "const1 end"))
}

func TestLoweredCallsOfEachFunc(t *testing.T) {
	for count := int64(1); count <= 4; count++ {
		for from := range count {
			for to := range count {
				funcs := slices.Repeat([]impl.Func{aFunc(1, 0, 1, "const1 end")}, int(count))
				funcs[from] = aFunc(1, 1, 1, fmt.Sprintf("get0 call%d end", to))
				want := []impl.Line{lnSet(1, 0), lnMove(2, 0), lnCall(2, to, 2), lnGive(2)}
				wantLowered(t, aModule(funcs...), from, want)
				if !wantAllLowered(t, aModule(funcs...)) {
					t.Fatalf("%s is not lowered", showPiles(aModule(funcs...)))
				}
			}
		}
	}
	// One that calls itself, by what it takes and gives itself.
	wantLowered(t, aModule(aFunc(0, 0, 0, "call0 end")), 0, []impl.Line{lnCall(20, 0), lnSet(20, 0), lnGive(20)})
	wantLowered(t, aModule(aFunc(0, 0, 1, "call0 call0 bin1 end")), 0, []impl.Line{lnCall(0, 0), lnCall(1, 0), lnBin(0, 0, 1, 1), lnGive(0)})
	wantLowered(t, aModule(aFunc(2, 0, 0, "get1 get0 call0 end")), 0, []impl.Line{lnMove(2, 1), lnMove(3, 0), lnCall(22, 0, 2, 3), lnSet(22, 0), lnGive(22)})
}

// The whole of a Func that calls itself, read off by hand.
func TestLoweredOfAProduct(t *testing.T) {
	wantLowered(t, aModule(aFunc(1, 0, 1, product)), 0, []impl.Line{
		lnMove(1, 0), lnZero(1, 1), lnIf(1, 10),
		lnMove(1, 0), lnMove(2, 0), lnSet(3, 1), lnBin(2, 2, 3, 2), lnCall(2, 0, 2), lnBin(1, 1, 2, 3), lnJump(11),
		lnSet(1, 1),
		lnGive(1),
	})
}
