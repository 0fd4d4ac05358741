package tests

import (
	"slices"
	"strconv"
	"strings"
	"testing"

	"loop.example/g00363/impl"
)

// Each kind of Step that takes, with one too few on the pile; within something, what was there ahead of it does not help.
func TestOneTooFewIsRefused(t *testing.T) {
	others := []impl.Func{aFunc(3, 0, 0, "end"), aFunc(2, 0, 1, "const end"), aFunc(1, 0, 0, "end")}
	look := func(words ...string) impl.Module {
		return aModule(append(slices.Clone(others), aFunc(2, 0, 0, strings.Join(words, " ")+" end"))...)
	}
	for _, c := range []struct {
		step  string
		takes int
		rest  string
	}{
		{"set", 1, ""}, {"tee", 1, "drop"}, {"bin", 2, "drop"}, {"zero", 1, "drop"}, {"drop", 1, ""}, {"load", 1, "drop"}, {"store", 2, ""}, {"jumpif0", 1, ""},
		{"if0", 1, "end"}, {"if0 else", 1, "end"}, {"if1", 1, "const else const end drop"}, {"call0", 3, ""}, {"call1", 2, "drop"}, {"call2", 1, ""},
	} {
		enough, few := times(c.takes, "const"), times(c.takes-1, "const")
		if m := look(enough, c.step, c.rest); !wantAsLooked(t, m, 3) {
			t.Fatalf("%s is refused", showPiles(m))
		}
		wantRefused(t, look(few, c.step, c.rest), 3)
		wantRefused(t, look(few, c.step, c.rest, "const"), 3)
		for opener, ends := range map[string]string{"block0": "end", "loop": "end", "const if0": "end", "const if0 else": "end", "block0 loop": "end end"} {
			for outside := range 4 {
				ahead, behind := times(outside, "const"), times(outside, "drop")
				if m := look(ahead, opener, enough, c.step, c.rest, ends, behind); !wantAsLooked(t, m, 3) {
					t.Fatalf("%s is refused", showPiles(m))
				}
				wantRefused(t, look(ahead, opener, few, c.step, c.rest, ends, behind), 3)
				wantRefused(t, look(ahead, opener, few, c.step, c.rest, ends, times(outside-min(outside, 1), "drop")), 3)
			}
		}
	}
}

func TestTakingWhatWasThereWhenItWasOpenedIsRefused(t *testing.T) {
	for _, text := range []string{
		"const block0 drop end end", "const block0 drop const end drop end", "const block1 drop const end drop end", "const block1 end end",
		"const loop drop end end", "const loop drop const end drop end", "const const if0 drop end end", "const const if0 drop const end drop end",
		"const const if0 else drop end end", "const const if0 else drop const end drop end", "const const if1 drop const else const end drop drop end",
		"const const if1 const else zero end drop drop end", "const block0 zero end drop end", "const block0 load end drop end", "const block0 const bin drop end drop end",
		"const block0 const store end end", "const const block0 bin end drop end", "const block0 if0 end end end", "const loop jumpif0 end end", "const block0 jumpif1 end end",
		"const block0 block0 drop end end end", "block0 const block0 drop end end end", "const block0 const drop drop end end", "const const const block0 store end end",
	} {
		wantNoPile(t, 0, text)
	}
	for _, text := range []string{"const set end", "const tee drop end", "const block0 set end end", "const block0 tee end drop end", "const loop const set set end end"} {
		f := aFunc(1, 0, 0, text)
		if got := wantAsLooked(t, aModule(f), 0); got != !strings.Contains(text, "block") && !strings.Contains(text, "loop") {
			t.Fatalf("of %q: %v", text, got)
		}
	}
}

// More or fewer at SpElse and at SpEnd than the width.
func TestAnotherWidthIsRefused(t *testing.T) {
	for have := range 5 {
		for width := range 2 {
			w, within := strconv.Itoa(width), times(have, "const")
			right := times(width, "const")
			wide := times(width, "drop") + "end"
			for _, text := range []string{
				"block" + w + " " + within + "end " + wide,
				"const block" + w + " " + within + "end " + wide[:len(wide)-3] + "drop end",
				"const if" + w + " " + within + "else " + right + "end " + wide,
				"const if" + w + " " + right + "else " + within + "end " + wide,
				"const if" + w + " trap else " + within + "end " + wide,
				"const if" + w + " " + within + "else trap end " + wide,
				"loop block" + w + " " + within + "end " + wide + " end",
			} {
				if is := wantAsLooked(t, onePile(0, text), 0); is != (have == width) {
					t.Fatalf("%q: %v", text, is)
				}
			}
			if is := wantAsLooked(t, onePile(int64(width), within+"end"), 0); is != (have == width) {
				t.Fatalf("a body with %d that gives %d: %v", have, width, is)
			}
		}
		for _, opener := range []string{"loop", "const loop", "block0 loop", "const if0", "const if0 else"} {
			text := opener + " " + times(have, "const") + "end " + times(strings.Count(opener, "const loop"), "drop") + times(strings.Count(opener, "block0"), "end") + "end"
			if is := wantAsLooked(t, onePile(0, text), 0); is != (have == 0) {
				t.Fatalf("%q: %v", text, is)
			}
		}
	}
	wantNoPile(t, 1, "loop const end end")
	wantNoPile(t, 0, "loop const end drop end")
	wantNoPile(t, 0, "loop const const jumpif0 end drop end")
}

// SpIf of width 1 without SpElse, where one comes to it and where one does not.
func TestAWideIfWithoutElseIsRefused(t *testing.T) {
	for _, text := range []string{
		"const if1 const end drop end", "const if1 end drop end", "const if1 trap end drop end", "const if1 end end", "const if1 const end end",
		"const if1 const if0 else end const end drop end", "const if0 const if1 const end drop else end end", "const if0 else const if1 const end drop end end",
		"trap if1 const end drop end", "trap if1 end end", "block0 jump0 if1 end end end",
	} {
		for gives := range int64(2) {
			wantNoPile(t, gives, text)
		}
	}
	wantPile(t, 0, "const if1 const else const end drop end", []int64{0, 1, 0, 1, 0, 1, 1, 0}, 1)
	wantPile(t, 0, "trap if1 else end end", []int64{0, -1, -1, -1, -1}, 0)
	wantPile(t, 0, "trap if0 end end", []int64{0, -1, -1, -1}, 0)
}

// A label wants as many within as it is wide, behind what SpJumpIf took; of what is open further out none count.
func TestAJumpWithTooFewIsRefused(t *testing.T) {
	for _, text := range []string{
		"block1 jump0 end drop end", "block1 const jumpif0 const end drop end", "block1 block0 jump1 end const end drop end", "block1 const block0 jump1 end end drop end",
		"block1 const loop jump1 end end drop end", "block1 const block0 const jumpif1 end end drop end", "const block1 jump0 end drop drop end", "const block1 const jumpif0 const end drop drop end",
		"const if1 jump0 else const end drop end", "const if1 const else jump0 end drop end", "const const if1 const else jump0 end drop drop end", "block1 const const if0 jump1 end end drop end",
	} {
		wantNoPile(t, 0, text)
	}
	for _, text := range []string{"jump0 end", "const jumpif0 const end", "block0 jump1 end const end", "const block0 jump1 end end", "const loop jump1 end end", "const block0 const jumpif1 end end", "const const if0 jump1 end end"} {
		wantNoPile(t, 1, text)
	}
	for _, text := range []string{"loop jump0 end end", "block1 loop jump0 end const end drop end", "const loop const jumpif0 jump0 end drop end", "block0 loop block0 jump2 end end end end"} {
		wantAcceptedPile(t, 0, text)
	}
}

// MaxHeight is accepted and one more is refused, whatever puts it there: more is how much higher than the consts ahead of it one stands.
func TestHeightsAtTheLimit(t *testing.T) {
	cases := []struct {
		text   string
		more   int
		behind string
	}{
		{"nop", 0, ""}, {"const", 1, "drop"}, {"get0", 1, "drop"}, {"get5", 1, "drop"}, {"call1", 1, "drop"}, {"call2", 0, ""}, {"const const call3", 2, ""},
		{"tee0", 0, ""}, {"zero", 0, ""}, {"load", 0, ""}, {"bin", 0, "const"}, {"set0", 0, "const"}, {"store", 0, "const const"}, {"call3", 0, "const const"},
		{"block0 nop end", 0, ""}, {"block0 const drop end", 1, ""}, {"block0 const trap end", 1, ""}, {"block0 const const store end", 2, ""}, {"block1 const end", 1, "drop"}, {"block1 const const jumpif0 end", 2, "drop"},
		{"block1 trap end", 1, "drop"}, {"block1 block1 trap end end", 1, "drop"}, {"block1 loop trap end trap end", 1, "drop"}, {"block0 trap const const const end", 0, ""}, {"block0 trap block1 end end", 0, ""},
		{"loop nop end", 0, ""}, {"loop const jumpif0 end", 1, ""}, {"loop trap const end", 0, ""}, {"loop const const drop jump0 end", 2, ""},
		{"if0 nop end", 0, "const"}, {"if0 const const drop drop end", 1, "const"}, {"if0 else const const drop drop end", 1, "const"}, {"if1 const else const end", 0, ""}, {"if1 trap else trap end", 0, ""},
		{"const if1 trap else trap end", 1, "drop"}, {"const if0 nop end", 1, ""}, {"const const const return", 3, ""}, {"const const jumpif0", 2, "drop"},
	}
	for count := 16; count <= 22; count++ {
		for _, c := range cases {
			body := times(count, "const") + c.text + " " + c.behind + " " + times(count, "drop") + "end"
			m := aModule(aFunc(3, 3, 0, body), aFunc(0, 0, 1, "const end"), aFunc(0, 0, 0, "end"), aFunc(2, 0, 0, "end"))
			if is := wantAsLooked(t, m, 0); is != (count+c.more <= 20) {
				t.Fatalf("%d consts and %q: %v", count, c.text, is)
			}
			if got := impl.Highest(m, 0); count+c.more <= 20 && got != int64(count+c.more) {
				t.Fatalf("%d consts and %q: Highest is %d", count, c.text, got)
			}
		}
	}
}

func TestHeightsUpAndDown(t *testing.T) {
	for count := range int64(40) {
		var b aPileBuilder
		b.add(impl.Step{Op: 1}, count, 0, 1)
		b.add(impl.Step{Op: 7}, count, count, -1)
		b.add(impl.Step{Op: 12}, 1, 0, 0)
		m := aModule(impl.Func{Body: b.body})
		if count <= 20 {
			wantHeights(t, m, 0, b.heights, count)
		} else {
			wantRefused(t, m, 0)
		}
		if impl.Valid(m) != (count <= 20) {
			t.Fatalf("%d on the pile: Valid is %v", count, impl.Valid(m))
		}
	}
}

// As deep in one another as 80 Steps allow: what is open is not on the pile, and each closes with what was there.
func TestHeightsAsDeepAsCanBe(t *testing.T) {
	flat := func(count int, height int64) []int64 { return slices.Repeat([]int64{height}, count) }
	for _, opener := range []string{"block0", "loop"} {
		wantPile(t, 0, times(39, opener)+"nop "+times(40, "end"), flat(80, 0), 0)
		wantPile(t, 0, times(39, opener)+"trap "+times(40, "end"), slices.Concat(flat(40, 0), flat(1, -1), flat(39, 0)), 0)
		wantPile(t, 0, "trap "+times(39, opener)+times(40, "end"), slices.Concat(flat(1, 0), flat(79, -1)), 0)
		for label := range 10 {
			wantAcceptedPile(t, 0, times(39, opener)+"jump"+strconv.Itoa(label)+" "+times(40, "end"))
		}
		wantNoPile(t, 0, times(39, opener)+"const "+times(40, "end"))
		wantNoPile(t, 0, "const "+times(38, opener)+"drop "+times(39, "end")+"end")
	}
	wantPile(t, 1, times(39, "block1")+"const "+times(40, "end"), slices.Concat(flat(40, 0), flat(40, 1)), 1)
	wantPile(t, 1, times(39, "block1")+"trap "+times(40, "end"), slices.Concat(flat(40, 0), flat(1, -1), flat(39, 1)), 1)
	wantPile(t, 0, times(26, "const if0")+"nop "+times(27, "end"), slices.Concat(slices.Repeat([]int64{0, 1}, 26), flat(28, 0)), 1)
	wantPile(t, 1, times(15, "const if1")+"const "+times(15, "else const end")+"end", slices.Concat(slices.Repeat([]int64{0, 1}, 15), flat(1, 0), slices.Repeat([]int64{1, 0, 1}, 15), flat(1, 1)), 1)
	var b aPileBuilder
	for i := range int64(19) {
		b.add(impl.Step{Op: 1}, 1, i, 0)
		b.add(impl.Step{Op: 8}, 1, i+1, 0)
	}
	b.add(impl.Step{Op: 20}, 3, 19, 0)
	for i := range int64(19) {
		b.add(impl.Step{Op: 12}, 1, 19-i, 0)
		b.add(impl.Step{Op: 7}, 1, 19-i, 0)
	}
	b.add(impl.Step{Op: 12}, 1, 0, 0)
	wantHeights(t, aModule(impl.Func{Body: b.body}), 0, b.heights, 19)
}

// The greatest local below Width and Width itself, also where one does not come.
func TestLocalsThereAre(t *testing.T) {
	for i := range int64(16) {
		args, locals := i%4, i/4
		for local := range int64(6) {
			n := strconv.FormatInt(local, 10)
			for _, text := range []string{
				"get" + n + " drop end", "const set" + n + " end", "const tee" + n + " drop end", "loop block0 get" + n + " drop end end end",
				"trap get" + n + " end", "trap set" + n + " end", "return tee" + n + " end", "block0 jump0 get" + n + " end end", "const if0 trap set" + n + " else nop end end",
			} {
				m := aModule(aFunc(args, locals, 0, text), aFunc(3, 3, 0, "get5 drop end"))
				is := wantAsLooked(t, m, 0)
				if is != (local < args+locals) {
					t.Fatalf("local %d of %d and %d in %q: %v", local, args, locals, text, is)
				}
				if impl.Valid(m) != is {
					t.Fatalf("Valid is %v of %s", !is, showPiles(m))
				}
			}
		}
	}
}

// A Func that is called must be there, also where one does not come.
func TestFuncsThatAreCalledAreThere(t *testing.T) {
	for count := 1; count <= 4; count++ {
		for callee := range 4 {
			for _, text := range []string{"callK end", "block0 callK end end", "trap callK end", "block0 jump0 loop callK end end end", "return block1 callK end drop end"} {
				funcs := slices.Repeat([]impl.Func{aFunc(0, 0, 0, "end")}, count)
				funcs[count-1].Body = pileSteps(strings.ReplaceAll(text, "K", strconv.Itoa(callee)))
				m := aModule(funcs...)
				if is := wantAsLooked(t, m, int64(count)-1); is != (callee < count) || is != impl.Valid(m) {
					t.Fatalf("%s: %v, Valid %v", showPiles(m), is, impl.Valid(m))
				}
			}
		}
	}
}

// A label must be there, also where one does not come.
func TestLabelsOneTooFarOut(t *testing.T) {
	for _, jump := range []string{"jump", "const jumpif", "trap jump", "trap jumpif"} {
		for depth := range 9 {
			for _, opener := range []string{"block0", "loop"} {
				right := times(depth, opener) + jump + strconv.Itoa(depth) + " " + times(depth, "end") + "end"
				wantAcceptedPile(t, 0, right)
				wantNoPile(t, 0, times(depth, opener)+jump+strconv.Itoa(depth+1)+" "+times(depth, "end")+"end")
				wantNoPile(t, 0, times(depth+1, opener)+times(depth+1, "end")+jump+"1 end")
			}
		}
	}
	wantNoPile(t, 0, "block0 jump0 block0 jump3 end end end")
	wantAcceptedPile(t, 0, "block0 jump0 block0 jump2 end end end")
}

func TestNoSuchFuncIsRefused(t *testing.T) {
	for count := int64(1); count <= 4; count++ {
		m := aModule(slices.Repeat([]impl.Func{aFunc(1, 0, 1, "get0 end")}, int(count))...)
		for k := range count {
			wantHeights(t, m, k, []int64{0, 1}, 1)
		}
		for _, k := range append(manyNumbers(), placesOutside(int(count))...) {
			if k < 0 || k >= count {
				wantRefused(t, m, k)
			}
		}
		if !impl.Valid(m) {
			t.Fatalf("%d right Funcs: Valid is false", count)
		}
	}
}

// Each Func has heights of its own.
func TestEachFuncHasItsOwnHeights(t *testing.T) {
	m := aModule(aFunc(0, 0, 0, "end"), aFunc(1, 0, 1, "get0 end"), aFunc(0, 0, 1, "const const bin end"), aFunc(0, 1, 0, "const const const call1 drop drop drop end"))
	wantHeights(t, m, 0, []int64{0}, 0)
	wantHeights(t, m, 1, []int64{0, 1}, 1)
	wantHeights(t, m, 2, []int64{0, 1, 2, 1}, 2)
	wantHeights(t, m, 3, []int64{0, 1, 2, 3, 3, 2, 1, 0}, 3)
}

// A module that is not ModuleOk is refused whichever Func is asked for, though that one may be right.
func TestModulesThatAreNotOkAreRefused(t *testing.T) {
	for _, m := range wrongModules() {
		for _, k := range []int64{-1, 0, 1, 2, 3, 4, int64(len(m.Funcs)) - 1, int64(len(m.Funcs)), greatestInt, leastInt} {
			wantRefused(t, m, k)
		}
		if impl.Valid(m) {
			t.Fatalf("Valid is true of %s", showPiles(m))
		}
	}
	right := aFunc(1, 0, 1, "get0 end")
	wrong := []impl.Module{
		{Funcs: []impl.Func{right}, Data: strings.Repeat("a", 65)}, {Funcs: slices.Repeat([]impl.Func{right}, 5)}, {Funcs: slices.Repeat([]impl.Func{right}, 300)},
	}
	for _, f := range wrongFuncs() {
		wrong = append(wrong, aModule(right, f), aModule(f, right), aModule(right, right, right, f))
	}
	for _, m := range wrong {
		for k := range int64(len(m.Funcs)) + 1 {
			wantRefused(t, m, k)
		}
		if impl.Valid(m) {
			t.Fatalf("Valid is true of %s", showPiles(m))
		}
	}
	wantHeights(t, impl.Module{Funcs: slices.Repeat([]impl.Func{right}, 4), Data: strings.Repeat("a", 64)}, 3, []int64{0, 1}, 1)
}

// A body that is not NestOk is refused, and only that Func of the module.
func TestBodiesThatAreNotOkAreRefused(t *testing.T) {
	right := aFunc(1, 0, 1, "get0 end")
	for _, text := range []string{
		"", "nop", "end end", "end nop", "block0 end", "block0", "else end", "const if0 else else end end", "block0 else end end", "loop else end end", "const if0 end", "const if0 else end",
		"const", "const drop", "const const bin", "trap", "return", "jump0", "trap end end", "return end nop", "trap block0 end", "trap else end", "jump0 end const end", "nop end end end",
	} {
		for gives := range int64(2) {
			f := aFunc(0, 0, gives, text)
			wantRefused(t, aModule(f), 0)
			m := aModule(right, f, right)
			wantRefused(t, m, 1)
			wantHeights(t, m, 0, []int64{0, 1}, 1)
			wantHeights(t, m, 2, []int64{0, 1}, 1)
			if impl.Valid(aModule(f)) || impl.Valid(m) {
				t.Fatalf("Valid is true with %q", text)
			}
		}
	}
}
