package tests

import (
	"fmt"
	"slices"
	"strconv"
	"strings"
	"testing"

	"loop.example/g00363/impl"
)

// pileNames are the names of the Ops from SpConst on, as the tests of this chapter write them.
var pileNames = []string{"const", "get", "set", "tee", "bin", "zero", "drop", "block", "loop", "if", "else", "end", "jump", "jumpif", "return", "call", "load", "store", "trap", "nop"}

// takesPuts has for each Op how many it takes and puts, written out by hand; SpCall is told by the Func.
var takesPuts = [][2]int64{{0, 1}, {0, 1}, {1, 0}, {1, 1}, {2, 1}, {1, 1}, {1, 0}, {0, 0}, {0, 0}, {1, 0}, {0, 0}, {0, 0}, {0, 0}, {1, 0}, {0, 0}, {0, 0}, {1, 1}, {2, 0}, {0, 0}, {0, 0}}

// pileSteps reads words like "const", "jump3" or "block1": a name and A, which is the least there is where it is not told.
func pileSteps(text string) []impl.Step {
	var list []impl.Step
	for _, name := range strings.Fields(text) {
		digits := strings.TrimLeft(name, "abcdefghijklmnopqrstuvwxyz")
		op := int64(slices.Index(pileNames, strings.TrimSuffix(name, digits)) + 1)
		a := kindsOfSteps[op-1].least
		if digits != "" {
			a, _ = strconv.ParseInt(digits, 10, 64)
		}
		list = append(list, impl.Step{Op: op, A: a})
	}
	return list
}

// times is text so many times, with blanks between.
func times(count int, text string) string { return strings.Repeat(text+" ", count) }

func aFunc(args, locals, gives int64, text string) impl.Func {
	return impl.Func{Args: args, Locals: locals, Gives: gives, Body: pileSteps(text)}
}

func aModule(funcs ...impl.Func) impl.Module { return impl.Module{Funcs: funcs} }

// onePile is a module of one Func, with no locals.
func onePile(gives int64, text string) impl.Module { return aModule(aFunc(0, 0, gives, text)) }

func showPile(f impl.Func) string {
	text := fmt.Sprintf("%d %d %d:", f.Args, f.Locals, f.Gives)
	for _, s := range f.Body {
		if s.Op < 1 || s.Op > 20 {
			return fmt.Sprint(text, f.Body)
		}
		text += fmt.Sprintf(" %s%d", pileNames[s.Op-1], s.A)
	}
	return text
}

func showPiles(m impl.Module) string {
	text := ""
	for i := range min(len(m.Funcs), 6) {
		text += "[" + showPile(m.Funcs[i]) + "] "
	}
	return text
}

// wantHeights asks of all three functions of one Func what they answer where it is accepted.
func wantHeights(t *testing.T, m impl.Module, k int64, want []int64, highest int64) {
	t.Helper()
	got, is := impl.Heights(m, k)
	if !is || !slices.Equal(got, want) {
		t.Fatalf("Heights(%s, %d) = %v, %v, want %v", showPiles(m), k, got, is, want)
	}
	if !impl.Accepts(m, k) {
		t.Fatalf("Accepts(%s, %d) is false", showPiles(m), k)
	}
	if got := impl.Highest(m, k); got != highest {
		t.Fatalf("Highest(%s, %d) = %d, want %d", showPiles(m), k, got, highest)
	}
}

func wantRefused(t *testing.T, m impl.Module, k int64) {
	t.Helper()
	if got, is := impl.Heights(m, k); is || len(got) != 0 {
		t.Fatalf("Heights(%s, %d) = %v, %v, want nothing and false", showPiles(m), k, got, is)
	}
	if impl.Accepts(m, k) {
		t.Fatalf("Accepts(%s, %d) is true", showPiles(m), k)
	}
	if got := impl.Highest(m, k); got != -1 {
		t.Fatalf("Highest(%s, %d) = %d, want -1", showPiles(m), k, got)
	}
}

// wantPile asks of the only Func of a module, and of the module itself.
func wantPile(t *testing.T, gives int64, text string, want []int64, highest int64) {
	t.Helper()
	wantHeights(t, onePile(gives, text), 0, want, highest)
	wantAsLooked(t, onePile(gives, text), 0)
	if !impl.Valid(onePile(gives, text)) {
		t.Fatalf("Valid is false of %q, which gives %d", text, gives)
	}
}

func wantNoPile(t *testing.T, gives int64, text string) {
	t.Helper()
	wantRefused(t, onePile(gives, text), 0)
	wantAsLooked(t, onePile(gives, text), 0)
	if impl.Valid(onePile(gives, text)) {
		t.Fatalf("Valid is true of %q, which gives %d", text, gives)
	}
}

// wantAcceptedPile is for bodies whose heights the plain look alone tells.
func wantAcceptedPile(t *testing.T, gives int64, text string) {
	t.Helper()
	if m := onePile(gives, text); !wantAsLooked(t, m, 0) || !impl.Valid(m) {
		t.Fatalf("%q, which gives %d, is refused", text, gives)
	}
}

// aPlainLook goes through a body by its grammar and counts on a pile of its own what is within each thing that is open: -1 where one does not come.
type aPlainLook struct {
	m       impl.Module
	f       impl.Func
	at      int
	heights []int64
	highest int64
	bad     bool
}

func (l *aPlainLook) want(is bool) { l.bad = l.bad || !is }

func (l *aPlainLook) stand(height int64) {
	l.want(height <= 20)
	l.highest = max(l.highest, height)
}

// plain does a Step that opens, divides and closes nothing, with own within and widths of the labels, the innermost first.
func (l *aPlainLook) plain(s impl.Step, widths []int64, own int64) int64 {
	takes, puts := takesPuts[s.Op-1][0], takesPuts[s.Op-1][1]
	leaves := int64(0)
	switch s.Op {
	case 2, 3, 4:
		l.want(s.A < l.f.Args+l.f.Locals)
	case 13, 14:
		l.want(s.A < int64(len(widths)))
		if s.A < int64(len(widths)) {
			leaves = widths[s.A]
		}
	case 15:
		leaves = l.f.Gives
	case 16:
		l.want(s.A < int64(len(l.m.Funcs)))
		if s.A < int64(len(l.m.Funcs)) {
			takes, puts = l.m.Funcs[s.A].Args, l.m.Funcs[s.A].Gives
		}
	}
	if own < 0 {
		return -1
	}
	own -= takes
	l.want(own >= 0 && own >= leaves)
	if s.Op == 13 || s.Op == 15 || s.Op == 19 {
		return -1
	}
	return max(own, 0) + puts
}

// opened goes from a Step that opens to behind its SpEnd.
func (l *aPlainLook) opened(widths []int64, below, own int64) int64 {
	s := l.f.Body[l.at]
	l.at++
	begin := int64(-1)
	if own >= 0 {
		begin = 0
		if s.Op == 10 {
			own--
			l.want(own >= 0)
		}
	}
	inside := append([]int64{s.A}, widths...)
	l.within(inside, below+own, begin)
	if l.f.Body[l.at].Op == 11 {
		l.at++
		l.within(inside, below+own, begin)
	} else {
		l.want(s.Op != 10 || s.A == 0)
	}
	l.at++
	if own < 0 {
		return -1
	}
	return own + s.A
}

// within goes up to the SpElse or SpEnd of what is open.
func (l *aPlainLook) within(widths []int64, below, own int64) {
	for {
		if own >= 0 {
			l.heights[l.at] = below + own
			l.stand(below + own)
		}
		switch s := l.f.Body[l.at]; s.Op {
		case 11, 12:
			l.want(own < 0 || own == widths[0])
			return
		case 8, 9, 10:
			own = l.opened(widths, below, own)
		default:
			own = l.plain(s, widths, own)
			l.at++
			if own >= 0 {
				l.stand(below + own)
			}
		}
	}
}

// plainLook answers what Heights, Accepts and Highest should.
func plainLook(m impl.Module, k int64) ([]int64, int64, bool) {
	if !impl.ModuleOk(m) || k < 0 || k >= int64(len(m.Funcs)) {
		return nil, -1, false
	}
	f := m.Funcs[k]
	if _, is := plainNest(f.Body); !is {
		return nil, -1, false
	}
	l := aPlainLook{m: m, f: f, heights: slices.Repeat([]int64{-1}, len(f.Body)), highest: f.Gives}
	l.within([]int64{f.Gives}, 0, 0)
	if l.bad {
		return nil, -1, false
	}
	return l.heights, l.highest, true
}

// wantAsLooked tells whether it was accepted.
func wantAsLooked(t *testing.T, m impl.Module, k int64) bool {
	t.Helper()
	want, highest, is := plainLook(m, k)
	if is {
		wantHeights(t, m, k, want, highest)
	} else {
		wantRefused(t, m, k)
	}
	return is
}

func TestConstantsOfChapter6(t *testing.T) {
	if impl.MaxHeight != 20 {
		t.Errorf("MaxHeight is %d", impl.MaxHeight)
	}
}

type aPileCase struct {
	gives   int64
	text    string
	heights []int64
	highest int64
}

func TestHeightsByHand(t *testing.T) {
	for _, c := range []aPileCase{
		{0, "end", []int64{0}, 0},
		{1, "const end", []int64{0, 1}, 1},
		{0, "nop nop end", []int64{0, 0, 0}, 0},
		{1, "const const bin end", []int64{0, 1, 2, 1}, 2},
		{0, "const const const drop drop drop end", []int64{0, 1, 2, 3, 2, 1, 0}, 3},
		{1, "const zero load end", []int64{0, 1, 1, 1}, 1},
		{0, "const const store end", []int64{0, 1, 2, 0}, 2},
		{1, "const block1 const const jumpif0 end bin end", []int64{0, 1, 1, 2, 3, 2, 2, 1}, 3},
		{0, "block0 end block1 const end drop end", []int64{0, 0, 0, 0, 1, 1, 0}, 1},
		{0, "loop const jumpif0 end end", []int64{0, 0, 1, 0, 0}, 1},
		{1, "const if1 const else const end end", []int64{0, 1, 0, 1, 0, 1, 1}, 1},
		{1, "const const if0 nop end end", []int64{0, 1, 2, 1, 1, 1}, 2},
		{1, "const const if0 else nop end end", []int64{0, 1, 2, 1, 1, 1, 1}, 2},
		{1, "const const if0 const drop else const const store end end", []int64{0, 1, 2, 1, 2, 1, 1, 2, 3, 1, 1}, 3},
		{1, "block1 loop const jump1 end const end end", []int64{0, 0, 0, 1, -1, 0, 1, 1}, 1},
		{1, "const block0 loop block0 const jumpif1 end end end end", []int64{0, 1, 1, 1, 1, 2, 1, 1, 1, 1}, 2},
	} {
		wantPile(t, c.gives, c.text, c.heights, c.highest)
	}
}

func TestHeightsInOneAnother(t *testing.T) {
	for _, c := range []aPileCase{
		{1, "const block1 const block1 const block1 const end bin end bin end bin end", []int64{0, 1, 1, 2, 2, 3, 3, 4, 4, 3, 3, 2, 2, 1}, 4},
		{1, "const if1 const if1 const else const end else const if1 const else const end end end", []int64{0, 1, 0, 1, 0, 1, 0, 1, 1, 0, 1, 0, 1, 0, 1, 1, 1}, 1},
		{0, "loop loop block0 const if0 loop end else block1 const end drop end end end end end", []int64{0, 0, 0, 0, 1, 0, 0, 0, 0, 0, 1, 1, 0, 0, 0, 0, 0}, 1},
		{0, "const loop const block1 const end bin drop end drop end", []int64{0, 1, 1, 2, 2, 3, 3, 2, 1, 1, 0}, 3},
		{1, "block1 const loop end block0 end const if0 end end end", []int64{0, 0, 1, 1, 1, 1, 1, 2, 1, 1, 1}, 2},
	} {
		wantPile(t, c.gives, c.text, c.heights, c.highest)
	}
	for _, outer := range []string{"block0", "loop", "if0", "block1", "if1"} {
		for _, inner := range []string{"block0", "loop", "if0", "block1", "if1"} {
			wantAcceptedPile(t, 0, wrapped(outer, wrapped(inner, "nop"))+" end")
			wantAcceptedPile(t, 1, "const "+wrapped(outer, "const "+wrapped(inner, "const drop")+" drop")+" end")
		}
	}
}

// wrapped opens something that leaves the pile as it was, with text within it.
func wrapped(opener, text string) string {
	switch opener {
	case "block1":
		return "block1 " + text + " const end drop"
	case "if0":
		return "const if0 " + text + " end"
	case "if1":
		return "const if1 " + text + " const else const end drop"
	}
	return opener + " " + text + " end"
}

// aPileBuilder puts Steps one behind the other, each with how many there should be ahead of it.
type aPileBuilder struct {
	body    []impl.Step
	heights []int64
}

// add puts the same Step so many times, the heights ahead of them from first on, each by so much more.
func (b *aPileBuilder) add(s impl.Step, count, first, more int64) {
	for i := range count {
		b.body = append(b.body, s)
		b.heights = append(b.heights, first+i*more)
	}
}

// Each kind of Step, with just as many on the pile as it takes and with more, ahead of everything and within something.
func TestHeightsOfEachKind(t *testing.T) {
	one, drop, end := impl.Step{Op: 1}, impl.Step{Op: 7}, impl.Step{Op: 12}
	for _, s := range rightSteps() {
		if s.Op >= 8 && s.Op <= 16 || s.Op == 19 {
			continue
		}
		takes, puts := takesPuts[s.Op-1][0], takesPuts[s.Op-1][1]
		for more := range int64(4) {
			for below, opener := range [][]impl.Step{{{Op: 8}}, {{Op: 9}}, {{Op: 1}, {Op: 10}}, nil} {
				var b aPileBuilder
				under := int64(below % 3)
				b.add(one, under, 0, 1)
				for i, o := range opener {
					b.add(o, 1, under+int64(i), 0)
				}
				b.add(one, takes+more, under, 1)
				b.add(s, 1, under+takes+more, 0)
				b.add(drop, more+puts, under+more+puts, -1)
				b.add(end, flag(opener != nil), under, 0)
				b.add(drop, under, under, -1)
				b.add(end, 1, 0, 0)
				m := aModule(impl.Func{Args: 3, Locals: 3, Body: b.body})
				wantHeights(t, m, 0, b.heights, slices.Max(b.heights))
				wantAsLooked(t, m, 0)
			}
		}
	}
}

// A call of another Func and, where there is no other, of itself, by what that Func takes and gives.
func TestHeightsOfCalls(t *testing.T) {
	one, drop, end := impl.Step{Op: 1}, impl.Step{Op: 7}, impl.Step{Op: 12}
	for i := range int64(4 * 2 * 4 * 4 * 3) {
		args, gives, count, callee, more := i%4, i/4%2, i/8%4+1, i/32%4, i/128
		if callee >= count {
			continue
		}
		funcs := slices.Repeat([]impl.Func{aFunc(1, 0, 0, "end")}, int(count))
		funcs[callee] = aFunc(args, 2, gives, "trap end")
		k := (callee + 1) % count
		var b aPileBuilder
		b.add(one, args+more, 0, 1)
		b.add(impl.Step{Op: 16, A: callee}, 1, args+more, 0)
		b.add(drop, gives+more, gives+more, -1)
		b.add(one, funcs[k].Gives, 0, 1)
		b.add(end, 1, funcs[k].Gives, 0)
		funcs[k].Body = b.body
		wantHeights(t, aModule(funcs...), k, b.heights, max(slices.Max(b.heights), funcs[k].Gives))
		wantAsLooked(t, aModule(funcs...), k)
		if args > 0 {
			funcs[k].Body = b.body[more+1:]
			wantRefused(t, aModule(funcs...), k)
		}
	}
}

func TestHeightsOfACallOfItself(t *testing.T) {
	wantHeights(t, aModule(aFunc(2, 1, 1, "get0 if1 get0 get1 call0 else const end end")), 0, []int64{0, 1, 0, 1, 2, 1, 0, 1, 1}, 2)
	wantHeights(t, aModule(aFunc(0, 0, 0, "call0 end")), 0, []int64{0, 0}, 0)
	wantHeights(t, aModule(aFunc(0, 0, 1, "call0 call0 bin end")), 0, []int64{0, 1, 2, 1}, 2)
	wantRefused(t, aModule(aFunc(2, 0, 1, "get0 call0 end")), 0)
	wantRefused(t, aModule(aFunc(0, 0, 1, "call0 call0 end")), 0)
}

// labelled has a jump within so many things that are open, of these openers over and over; all labels have enough there.
func labelled(openers []string, depth int, gives int64, jump string) string {
	text := "const const " + jump + " drop"
	for i := range depth {
		text = wrapped(openers[i%len(openers)], text)
	}
	return text + times(int(gives), " const") + " end"
}

// Jumps to each label there is, the body's own too, and to one too far out.
func TestHeightsOfJumpsToEachLabel(t *testing.T) {
	for _, openers := range [][]string{{"block0"}, {"loop"}, {"if0"}, {"block1"}, {"if1"}, {"block0", "block1", "loop", "if1", "if0"}} {
		for depth := range 11 {
			for label := range 10 {
				for gives := range int64(2) {
					for _, jump := range []string{"jump", "jumpif"} {
						m := onePile(gives, labelled(openers, depth, gives, jump+strconv.Itoa(label)))
						if wantAsLooked(t, m, 0) != (label <= depth) {
							t.Fatalf("%s: a label %d further out, within %d", showPiles(m), label, depth)
						}
					}
				}
			}
		}
	}
}

func TestHeightsOfJumpsByHand(t *testing.T) {
	for _, c := range []aPileCase{
		{0, "jump0 end", []int64{0, -1}, 0},
		{1, "const jump0 end", []int64{0, 1, -1}, 1},
		{1, "const const const jump0 end", []int64{0, 1, 2, 3, -1}, 3},
		{0, "const const jump0 end", []int64{0, 1, 2, -1}, 2},
		{0, "const jumpif0 end", []int64{0, 1, 0}, 1},
		{1, "const const jumpif0 end", []int64{0, 1, 2, 1}, 2},
		{1, "const const const jumpif0 drop end", []int64{0, 1, 2, 3, 2, 1}, 3},
		{1, "block0 const jump1 end const end", []int64{0, 0, 1, -1, 0, 1}, 1},
		{0, "block1 const const const jump0 end drop end", []int64{0, 0, 1, 2, 3, -1, 1, 0}, 3},
		{0, "const block1 jump1 end drop drop end", []int64{0, 1, 1, -1, 2, 1, 0}, 2},
		{0, "block1 block0 loop const jump2 end end const end drop end", []int64{0, 0, 0, 0, 1, -1, 0, 0, 1, 1, 0}, 1},
		{0, "block1 block0 loop const const jumpif2 drop end end const end drop end", []int64{0, 0, 0, 0, 1, 2, 1, 0, 0, 0, 1, 1, 0}, 2},
		{1, "block1 loop const const jumpif2 const jumpif0 drop end const end end", []int64{0, 0, 0, 1, 2, 1, 2, 1, 0, 0, 1, 1}, 2},
		{0, "loop jump0 end end", []int64{0, 0, -1, 0}, 0},
		{0, "loop const const jump0 end end", []int64{0, 0, 1, 2, -1, 0}, 2},
		{0, "const if1 const jump0 else const const jumpif0 end drop end", []int64{0, 1, 0, 1, -1, 0, 1, 2, 1, 1, 0}, 2},
		{1, "const if0 const jump1 end const end", []int64{0, 1, 0, 1, -1, 0, 1}, 1},
	} {
		wantPile(t, c.gives, c.text, c.heights, c.highest)
	}
}

func TestHeightsOfReturns(t *testing.T) {
	for _, c := range []aPileCase{
		{0, "return end", []int64{0, -1}, 0},
		{1, "const return end", []int64{0, 1, -1}, 1},
		{0, "const return end", []int64{0, 1, -1}, 1},
		{1, "const const const const return end", []int64{0, 1, 2, 3, 4, -1}, 4},
		{1, "const block0 const const return end end", []int64{0, 1, 1, 2, 3, -1, 1}, 3},
		{0, "const block1 return end drop drop end", []int64{0, 1, 1, -1, 2, 1, 0}, 2},
		{1, "loop const if0 const return end end const end", []int64{0, 0, 1, 0, 1, -1, 0, 0, 1}, 1},
		{1, "const if1 const return else const end end", []int64{0, 1, 0, 1, -1, 0, 1, 1}, 1},
	} {
		wantPile(t, c.gives, c.text, c.heights, c.highest)
	}
	wantNoPile(t, 1, "return end")
	wantNoPile(t, 1, "const block0 return end end")
	wantNoPile(t, 1, "const loop return end end")
	wantNoPile(t, 1, "const const if0 return end end")
}

// Behind what one does not go on from one does not come, whatever stands there: nothing is asked of the pile.
func TestHeightsWhereOneDoesNotCome(t *testing.T) {
	for _, leave := range []string{"jump0", "return", "trap"} {
		for _, c := range []aPileCase{
			{0, "LEAVE end", []int64{0, -1}, 0},
			{0, "LEAVE bin drop store zero load const const end", []int64{0, -1, -1, -1, -1, -1, -1, -1, -1}, 0},
			{0, "LEAVE jump0 return trap jumpif0 end", []int64{0, -1, -1, -1, -1, -1}, 0},
			{0, "LEAVE block1 end end", []int64{0, -1, -1, -1}, 0},
			{0, "LEAVE block1 const jump0 end drop end", []int64{0, -1, -1, -1, -1, -1, -1}, 0},
			{0, "LEAVE loop const jumpif0 end end", []int64{0, -1, -1, -1, -1, -1}, 0},
			{0, "LEAVE loop const end nop end", []int64{0, -1, -1, -1, -1, -1}, 0},
			{0, "LEAVE if0 const end end", []int64{0, -1, -1, -1, -1}, 0},
			{0, "LEAVE if1 else const const end nop end", []int64{0, -1, -1, -1, -1, -1, -1, -1}, 0},
			{0, "LEAVE block0 block1 loop if0 else end end end end nop end", []int64{0, -1, -1, -1, -1, -1, -1, -1, -1, -1, -1, -1}, 0},
			{0, "block0 LEAVE end nop end", []int64{0, 0, -1, 0, 0}, 0},
			{0, "block0 LEAVE bin end nop end", []int64{0, 0, -1, -1, 0, 0}, 0},
			{0, "loop LEAVE const end nop end", []int64{0, 0, -1, -1, 0, 0}, 0},
			{0, "block0 LEAVE block0 end nop end nop end", []int64{0, 0, -1, -1, -1, -1, 0, 0}, 0},
			{0, "block0 LEAVE loop LEAVE end const end nop end", []int64{0, 0, -1, -1, -1, -1, -1, 0, 0}, 0},
			{0, "const if0 LEAVE else nop end nop end", []int64{0, 1, 0, -1, 0, 0, 0, 0}, 1},
			{0, "const if0 LEAVE const bin else nop end nop end", []int64{0, 1, 0, -1, -1, -1, 0, 0, 0, 0}, 1},
			{0, "const if0 nop else LEAVE const end nop end", []int64{0, 1, 0, 0, 0, -1, -1, 0, 0}, 1},
			{0, "const if0 LEAVE else LEAVE end nop end", []int64{0, 1, 0, -1, 0, -1, 0, 0}, 1},
			{0, "const if0 LEAVE end nop end", []int64{0, 1, 0, -1, 0, 0}, 1},
			{0, "const if0 LEAVE if1 const else nop end drop else nop end end", []int64{0, 1, 0, -1, -1, -1, -1, -1, -1, -1, 0, 0, 0}, 1},
			{0, "block0 LEAVE end LEAVE nop block0 nop end end", []int64{0, 0, -1, 0, -1, -1, -1, -1, -1}, 0},
			{0, "const const block0 const LEAVE end drop drop LEAVE end", []int64{0, 1, 2, 2, 3, -1, 2, 1, 0, -1}, 3},
		} {
			wantPile(t, c.gives, strings.ReplaceAll(c.text, "LEAVE", leave), c.heights, c.highest)
		}
	}
}

// One comes behind an SpEnd with what was there and the width, though one does not come to it, nor anything jumps there.
func TestHeightsBehindAnEndThatOneDoesNotComeTo(t *testing.T) {
	for _, c := range []aPileCase{
		{1, "trap end", []int64{0, -1}, 1},
		{1, "trap nop const const end", []int64{0, -1, -1, -1, -1}, 1},
		{0, "block1 trap end drop end", []int64{0, 0, -1, 1, 0}, 1},
		{1, "block1 trap end end", []int64{0, 0, -1, 1}, 1},
		{1, "const block1 trap const const const end bin end", []int64{0, 1, 1, -1, -1, -1, -1, 2, 1}, 2},
		{1, "const if1 trap else trap end end", []int64{0, 1, 0, -1, 0, -1, 1}, 1},
		{1, "const if1 const else trap end end", []int64{0, 1, 0, 1, 0, -1, 1}, 1},
		{1, "const if1 trap else const end end", []int64{0, 1, 0, -1, 0, 1, 1}, 1},
		{0, "loop trap end loop jump0 end end", []int64{0, 0, -1, 0, 0, -1, 0}, 0},
		{1, "loop jump0 end const end", []int64{0, 0, -1, 0, 1}, 1},
		{1, "const block1 block1 trap end end bin end", []int64{0, 1, 1, 1, -1, 2, 2, 1}, 2},
		{1, "const loop block1 trap end drop end end", []int64{0, 1, 1, 1, -1, 2, 1, 1}, 2},
	} {
		wantPile(t, c.gives, c.text, c.heights, c.highest)
	}
	wantNoPile(t, 0, "block1 trap end end")
	wantNoPile(t, 1, "block0 trap end end")
	wantNoPile(t, 1, "loop trap end end")
	wantNoPile(t, 0, "const if1 trap else trap end end")
	wantNoPile(t, 0, "const if0 trap end drop end")
	wantNoPile(t, 0, "const const if0 trap else bin end drop end")
}
