package tests

import (
	"slices"
	"strings"
	"testing"

	"loop.example/g00363/impl"
)

// aModuleCase is a Module and its bytes, written out by hand.
type aModuleCase struct {
	module impl.Module
	text   string
}

func moduleCases() []aModuleCase {
	get := impl.Step{Op: impl.SpGet}
	end := impl.Step{Op: impl.SpEnd}
	greatest := impl.Func{Args: 3, Locals: 3, Gives: 1, Body: []impl.Step{end}}
	return []aModuleCase{
		{impl.Module{Funcs: []impl.Func{{}}}, "\x00wsm\x01\x00\x00\x00\x00\x00"},
		{impl.Module{Funcs: []impl.Func{{Args: 1, Gives: 1, Body: []impl.Step{get, end}}}}, "\x00wsm\x01\x01\x00\x01\x03\x02\x00\x0c\x00"},
		{impl.Module{Funcs: []impl.Func{{Args: 2, Locals: 3, Gives: 1}}, Data: "ab\x00\xff"}, "\x00wsm\x01\x02\x03\x01\x00\x04ab\x00\xff"},
		{impl.Module{Funcs: []impl.Func{{Args: 3, Locals: 1, Body: []impl.Step{{Op: impl.SpConst, A: 4294967295}, {Op: impl.SpDrop}, end}}, {Locals: 2, Body: []impl.Step{{Op: impl.SpTrap}}}}}, "\x00wsm\x02\x03\x01\x00\x04\x01\x7f\x07\x0c\x00\x02\x00\x01\x13\x00"},
		{impl.Module{Funcs: []impl.Func{{}, {Gives: 1, Body: []impl.Step{{Op: impl.SpConst, A: 64}, end}}, {}}, Data: "\x0c"}, "\x00wsm\x03\x00\x00\x00\x00\x00\x00\x01\x04\x01\xc0\x00\x0c\x00\x00\x00\x00\x01\x0c"},
		{impl.Module{Funcs: []impl.Func{greatest, {}, greatest, greatest}, Data: "\x00wsm"}, "\x00wsm\x04\x03\x03\x01\x01\x0c\x00\x00\x00\x00\x03\x03\x01\x01\x0c\x03\x03\x01\x01\x0c\x04\x00wsm"},
		{impl.Module{Funcs: []impl.Func{{Body: slices.Repeat([]impl.Step{{Op: impl.SpNop}}, 80)}}}, "\x00wsm\x01\x00\x00\x00\x50" + strings.Repeat("\x14", 80) + "\x00"},
		{impl.Module{Funcs: []impl.Func{{Body: slices.Repeat([]impl.Step{{Op: impl.SpNop}, {Op: impl.SpCall, A: 3}}, 40)}}}, "\x00wsm\x01\x00\x00\x00\x78" + strings.Repeat("\x14\x10\x03", 40) + "\x00"},
		{impl.Module{Funcs: []impl.Func{{Body: slices.Repeat([]impl.Step{get}, 64)}}}, "\x00wsm\x01\x00\x00\x00\x80\x01" + strings.Repeat("\x02\x00", 64) + "\x00"},
		{impl.Module{Funcs: []impl.Func{{Body: slices.Repeat([]impl.Step{{Op: impl.SpConst, A: 2147483647}}, 80)}}}, "\x00wsm\x01\x00\x00\x00\xe0\x03" + strings.Repeat("\x01\xff\xff\xff\xff\x07", 80) + "\x00"},
		{impl.Module{Funcs: []impl.Func{{}}, Data: strings.Repeat("\x80", 64)}, "\x00wsm\x01\x00\x00\x00\x00\x40" + strings.Repeat("\x80", 64)},
		{impl.Module{Funcs: []impl.Func{{}, {Args: 3}, {Locals: 3}, {Gives: 1}}, Data: strings.Repeat("z", 63)}, "\x00wsm\x04\x00\x00\x00\x00\x03\x00\x00\x00\x00\x03\x00\x00\x00\x00\x01\x00\x3f" + strings.Repeat("z", 63)},
	}
}

// manyData is a text of so many bytes of a fixed sequence, which seed picks.
func manyData(seed uint64, size int) string {
	text := make([]byte, size)
	state := seed
	for i := range text {
		state = state*6364136223846793005 + 1442695040888963407
		text[i] = byte(state >> 40)
	}
	return string(text)
}

// aRightModule is one of a fixed sequence, which seed picks: 1 to 4 Funcs, Bodies and Data of none, of few and of as many as there may be.
func aRightModule(seed uint64) impl.Module {
	state := seed
	next := func(count uint64) int64 {
		state = state*6364136223846793005 + 1442695040888963407
		return int64(state >> 33 % count)
	}
	next(1)
	sizes := []int64{0, 80, next(81), next(6)}
	data := []int64{0, 64, next(65), next(4)}
	m := impl.Module{Data: manyData(seed, int(data[next(4)]))}
	for i := range seed%4 + 1 {
		f := impl.Func{Args: next(4), Locals: next(4), Gives: next(2)}
		f.Body = manySteps(seed*4+i, int(sizes[next(4)]))
		m.Funcs = append(m.Funcs, f)
	}
	return m
}

// rightModules are the hand-written ones, every right Args, Locals and Gives, every right Step, Data of every size and with every byte, and many more.
func rightModules() []impl.Module {
	var list []impl.Module
	for _, c := range moduleCases() {
		list = append(list, c.module)
	}
	for i := range int64(32) {
		f := impl.Func{Args: i % 4, Locals: i / 4 % 4, Gives: i / 16, Body: manySteps(uint64(i), int(i))}
		list = append(list, impl.Module{Funcs: []impl.Func{f}}, impl.Module{Funcs: []impl.Func{{Args: 1}, f}, Data: "d"})
	}
	for _, s := range rightSteps() {
		list = append(list, impl.Module{Funcs: []impl.Func{{Body: []impl.Step{s}}}})
	}
	for size := range 65 {
		list = append(list, impl.Module{Funcs: []impl.Func{{Locals: 1}}, Data: manyData(uint64(size), size)})
	}
	for b := range 256 {
		list = append(list, impl.Module{Funcs: []impl.Func{{Gives: 1}}, Data: string([]byte{byte(b)})}, impl.Module{Funcs: []impl.Func{{}, {}}, Data: string([]byte{3, byte(b), byte(b), 0})})
	}
	for seed := range uint64(200) {
		list = append(list, aRightModule(seed))
	}
	return list
}

// wrongFuncs have one thing that is just past an edge, or far off, or that would do if its last bits were all.
func wrongFuncs() []impl.Func {
	var list []impl.Func
	right := func() impl.Func {
		return impl.Func{Args: 2, Locals: 1, Gives: 1, Body: []impl.Step{{Op: impl.SpGet}, {Op: impl.SpEnd}}}
	}
	add := func(change func(*impl.Func)) {
		f := right()
		change(&f)
		list = append(list, f)
	}
	for _, n := range []int64{-1, -2, -4, 4, 5, 7, 256, 4294967296, 4294967297, -4294967296, 1 << 40, leastInt, leastInt + 1, greatestInt, greatestInt - 1} {
		add(func(f *impl.Func) { f.Args = n })
		add(func(f *impl.Func) { f.Locals = n })
		add(func(f *impl.Func) { f.Gives = n })
		add(func(f *impl.Func) { f.Args, f.Locals = n, -n })
		add(func(f *impl.Func) { f.Args, f.Locals, f.Gives = n, n, n })
	}
	add(func(f *impl.Func) { f.Gives = 2 })
	add(func(f *impl.Func) { f.Gives = 3 })
	for _, size := range []int{81, 82, 160, 5000} {
		add(func(f *impl.Func) { f.Body = slices.Repeat([]impl.Step{{Op: impl.SpNop}}, size) })
		add(func(f *impl.Func) { f.Body = manySteps(5, size) })
	}
	for _, s := range wrongSteps() {
		add(func(f *impl.Func) { f.Body = []impl.Step{s} })
	}
	for _, at := range []int{0, 1, 40, 79} {
		add(func(f *impl.Func) {
			f.Body = manySteps(9, 80)
			f.Body[at] = impl.Step{Op: impl.SpNop, A: 1}
		})
	}
	return list
}

// wrongModules have a wrong Func at each place there may be, too few or too many Funcs, or too much Data.
func wrongModules() []impl.Module {
	list := []impl.Module{{}, {Funcs: []impl.Func{}}, {Data: "a"}, {Funcs: make([]impl.Func, 0, 3), Data: strings.Repeat("a", 64)}}
	for _, f := range wrongFuncs() {
		for count := 1; count <= 4; count++ {
			for at := range count {
				funcs := make([]impl.Func, count)
				funcs[at] = f
				list = append(list, impl.Module{Funcs: funcs})
			}
		}
		list = append(list, impl.Module{Funcs: []impl.Func{f}, Data: "abc"}, impl.Module{Funcs: []impl.Func{f, f, f, f}})
	}
	for _, count := range []int{5, 6, 8, 256 + 1, 5000} {
		list = append(list, impl.Module{Funcs: make([]impl.Func, count)}, impl.Module{Funcs: make([]impl.Func, count), Data: "a"})
	}
	for _, size := range []int{65, 66, 128, 256, 256 + 1, 70000} {
		list = append(list, impl.Module{Funcs: make([]impl.Func, 1), Data: strings.Repeat("\x00", size)}, impl.Module{Funcs: make([]impl.Func, 4), Data: manyData(1, size)})
	}
	return list
}

// plainModule writes a right Module by the plain numbers and Steps of chapters 2 and 3's tests.
func plainModule(m impl.Module) string {
	text := "\x00wsm" + plainNat(int64(len(m.Funcs)))
	for _, f := range m.Funcs {
		body := plainSteps(f.Body)
		text += plainNat(f.Args) + plainNat(f.Locals) + plainNat(f.Gives) + plainNat(int64(len(body))) + body
	}
	return text + plainNat(int64(len(m.Data))) + m.Data
}

func sameFunc(a, b impl.Func) bool {
	return a.Args == b.Args && a.Locals == b.Locals && a.Gives == b.Gives && slices.Equal(a.Body, b.Body)
}

// sameModule takes an empty list and nil for the same.
func sameModule(a, b impl.Module) bool {
	return a.Data == b.Data && slices.EqualFunc(a.Funcs, b.Funcs, sameFunc)
}

func copyOfModule(m impl.Module) impl.Module {
	m.Funcs = slices.Clone(m.Funcs)
	for i := range m.Funcs {
		m.Funcs[i].Body = slices.Clone(m.Funcs[i].Body)
	}
	return m
}

func wantModuleText(t *testing.T, m impl.Module, want string) {
	t.Helper()
	if got := impl.ShowModule(m); got != want {
		t.Fatalf("ShowModule(%#v) = %q, want %q", m, got, want)
	}
}

func TestConstantsOfChapter4(t *testing.T) {
	for i, code := range []int64{impl.MdOk, impl.MdMagic, impl.MdShort, impl.MdForm, impl.MdMore} {
		if code != int64(i) {
			t.Errorf("code %d is %d", i, code)
		}
	}
	if impl.MaxMemory != 64 {
		t.Errorf("MaxMemory is %d", impl.MaxMemory)
	}
}

func TestModuleOkAtTheEdges(t *testing.T) {
	rows := []struct {
		args, locals, gives int64
		right               bool
	}{
		{0, 0, 0, true}, {3, 0, 0, true}, {0, 3, 0, true}, {0, 0, 1, true}, {3, 3, 1, true}, {1, 2, 0, true},
		{-1, 0, 0, false}, {4, 0, 0, false}, {0, -1, 0, false}, {0, 4, 0, false}, {0, 0, -1, false}, {0, 0, 2, false},
		{-1, 3, 1, false}, {4, -1, 0, false}, {3, 4, 1, false}, {3, 3, 2, false},
	}
	for _, r := range rows {
		f := impl.Func{Args: r.args, Locals: r.locals, Gives: r.gives}
		if got := impl.ModuleOk(impl.Module{Funcs: []impl.Func{f}}); got != r.right {
			t.Errorf("ModuleOk of %v is %v", r, got)
		}
		if got := impl.ModuleOk(impl.Module{Funcs: []impl.Func{{}, {}, {}, f}, Data: "x"}); got != r.right {
			t.Errorf("ModuleOk of %v as the last of four is %v", r, got)
		}
	}
	for size, right := range map[int]bool{0: true, 1: true, 79: true, 80: true, 81: false, 82: false} {
		f := impl.Func{Body: manySteps(2, size)}
		if got := impl.ModuleOk(impl.Module{Funcs: []impl.Func{f}}); got != right {
			t.Errorf("ModuleOk of a Body of %d Steps is %v", size, got)
		}
	}
	for count, right := range []bool{false, true, true, true, true, false, false} {
		if got := impl.ModuleOk(impl.Module{Funcs: make([]impl.Func, count)}); got != right {
			t.Errorf("ModuleOk of %d Funcs is %v", count, got)
		}
	}
	for size, right := range map[int]bool{0: true, 1: true, 63: true, 64: true, 65: false, 66: false} {
		if got := impl.ModuleOk(impl.Module{Funcs: make([]impl.Func, 1), Data: manyData(4, size)}); got != right {
			t.Errorf("ModuleOk of Data of %d bytes is %v", size, got)
		}
	}
}

func TestModuleOkOfRightAndWrong(t *testing.T) {
	for _, m := range rightModules() {
		if !impl.ModuleOk(m) {
			t.Fatalf("ModuleOk(%#v) is false", m)
		}
	}
	for _, m := range wrongModules() {
		if impl.ModuleOk(m) {
			t.Fatalf("ModuleOk(%#v) is true", m)
		}
	}
}

// What a Step asks of its Func or Module (a local, a Func, what it closes) is not this chapter's.
func TestModuleOkAsksNothingOfStepsButThatTheyAreRight(t *testing.T) {
	for _, s := range []impl.Step{{Op: impl.SpGet, A: 5}, {Op: impl.SpCall, A: 3}, {Op: impl.SpEnd}, {Op: impl.SpElse}, {Op: impl.SpLoop}, {Op: impl.SpJump, A: 9}, {Op: impl.SpBin, A: 1}, {Op: impl.SpLoad, A: 255}} {
		m := impl.Module{Funcs: []impl.Func{{Body: []impl.Step{s}}}}
		if !impl.ModuleOk(m) || impl.Width(m.Funcs[0]) != 0 || impl.Total(m) != 1 {
			t.Errorf("a Body of %v is not right", s)
		}
	}
}

func TestShowModule(t *testing.T) {
	for _, c := range moduleCases() {
		wantModuleText(t, c.module, c.text)
	}
	for _, m := range rightModules() {
		wantModuleText(t, m, plainModule(m))
	}
}

func TestShowModuleOfWrong(t *testing.T) {
	for _, m := range wrongModules() {
		wantModuleText(t, m, "")
	}
}

func TestWidth(t *testing.T) {
	for args := int64(0); args <= 3; args++ {
		for locals := int64(0); locals <= 3; locals++ {
			for gives := int64(0); gives <= 1; gives++ {
				for _, size := range []int{0, 1, 80} {
					f := impl.Func{Args: args, Locals: locals, Gives: gives, Body: manySteps(6, size)}
					if got := impl.Width(f); got != args+locals {
						t.Errorf("Width(%v) = %d", f, got)
					}
				}
			}
		}
	}
	for _, f := range wrongFuncs() {
		if got := impl.Width(f); got != -1 {
			t.Errorf("Width(%v) = %d, want -1", f, got)
		}
	}
}

func TestTotal(t *testing.T) {
	for i, want := range []int64{0, 2, 0, 4, 2, 3, 80, 80, 64, 80, 0, 0} {
		if got := impl.Total(moduleCases()[i].module); got != want {
			t.Errorf("Total of the case %d is %d, want %d", i, got, want)
		}
	}
	for _, m := range rightModules() {
		want := 0
		for _, f := range m.Funcs {
			want += len(f.Body)
		}
		if got := impl.Total(m); got != int64(want) {
			t.Fatalf("Total(%#v) = %d, want %d", m, got, want)
		}
	}
	full := impl.Func{Body: manySteps(8, 80)}
	if got := impl.Total(impl.Module{Funcs: []impl.Func{full, full, full, full}}); got != 320 {
		t.Errorf("Total of four full ones is %d", got)
	}
	for _, m := range wrongModules() {
		if got := impl.Total(m); got != -1 {
			t.Fatalf("Total(%#v) = %d, want -1", m, got)
		}
	}
}

func TestEmptyListsAndNilAreAlike(t *testing.T) {
	for _, body := range [][]impl.Step{nil, {}, make([]impl.Step, 0, 5)} {
		f := impl.Func{Args: 1, Locals: 2, Body: body}
		m := impl.Module{Funcs: []impl.Func{f, f}, Data: "q"}
		if !impl.ModuleOk(m) || impl.Width(f) != 3 || impl.Total(m) != 0 {
			t.Errorf("a Func without Steps (%#v) is not right", body)
		}
		wantModuleText(t, m, "\x00wsm\x02\x01\x02\x00\x00\x01\x02\x00\x00\x01q")
		wantModule(t, impl.ShowModule(m), m)
	}
	for _, funcs := range [][]impl.Func{nil, {}, make([]impl.Func, 0, 5)} {
		m := impl.Module{Funcs: funcs}
		if impl.ModuleOk(m) || impl.Total(m) != -1 {
			t.Errorf("a Module without Funcs (%#v) is right", funcs)
		}
		wantModuleText(t, m, "")
	}
}

// withRoom is m in lists that have more behind their ends: that more is right too, and more of it would not be.
func withRoom(m impl.Module) (impl.Module, []impl.Func) {
	whole := append(copyOfModule(m).Funcs, impl.Func{Args: 2, Body: manySteps(1, 2)}, impl.Func{Gives: 9})
	for i, f := range whole {
		body := append(slices.Clone(f.Body), manySteps(uint64(i), 5)...)
		whole[i].Body = body[:len(f.Body)]
	}
	return impl.Module{Funcs: whole[:len(m.Funcs)], Data: m.Data}, whole
}

func wholeBodies(funcs []impl.Func) impl.Module {
	m := impl.Module{Funcs: slices.Clone(funcs)}
	for i, f := range funcs {
		m.Funcs[i].Body = slices.Clone(f.Body[:cap(f.Body)])
	}
	return m
}

// P21: arguments and the room behind them stay, and that room changes no answer.
func TestModulesGivenStay(t *testing.T) {
	list := append(rightModules()[:80], wrongModules()[:80]...)
	for seed := range uint64(40) {
		list = append(list, aRightModule(seed))
	}
	for _, m := range list {
		given, whole := withRoom(m)
		kept := wholeBodies(whole)
		for range 2 {
			if impl.ModuleOk(given) != impl.ModuleOk(m) || impl.ShowModule(given) != impl.ShowModule(m) || impl.Total(given) != impl.Total(m) {
				t.Fatalf("another answer of %#v with room behind its lists", m)
			}
			for i, f := range given.Funcs {
				if impl.Width(f) != impl.Width(m.Funcs[i]) {
					t.Fatalf("another Width of %v with room behind its Body", f)
				}
			}
		}
		if !sameModule(wholeBodies(whole), kept) || given.Data != m.Data {
			t.Fatalf("%#v, or the room behind its lists, is another one", m)
		}
	}
}

// P21: whatever is given, each function answers, and answers the same again.
func TestModulesAnswerAtEveryArgument(t *testing.T) {
	numbers := append(manyNumbers(), noOps...)
	for i, a := range numbers {
		b, c := numbers[(i*7+1)%len(numbers)], numbers[(i*11+2)%len(numbers)]
		for _, f := range []impl.Func{{Args: a}, {Locals: a}, {Gives: a}, {Args: a, Locals: b, Gives: c}, {Body: []impl.Step{{Op: a, A: b}}}, {Args: a % 4, Locals: b % 4, Gives: c % 2, Body: manySteps(uint64(i), i%90)}} {
			m := impl.Module{Funcs: slices.Repeat([]impl.Func{f}, i%6), Data: manyData(uint64(i), i%70)}
			right := impl.ModuleOk(m)
			if right != impl.ModuleOk(m) || impl.Total(m) != impl.Total(m) || impl.ShowModule(m) != impl.ShowModule(m) || impl.Width(f) != impl.Width(f) {
				t.Fatalf("two answers at %#v", m)
			}
			if right != (impl.ShowModule(m) != "") || right != (impl.Total(m) >= 0) || right && impl.Width(f) < 0 {
				t.Fatalf("ModuleOk says %v of %#v", right, m)
			}
		}
	}
}
