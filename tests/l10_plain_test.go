package tests

import (
	"fmt"
	"slices"
	"testing"

	"loop.example/g00363/impl"
)

// aMark is a place that is not known yet: of a label with the height at which it was opened and its width.
type aMark struct{ number, base, width int64 }

// aPlainLower writes the lines of a body by its grammar, on heights that it counts itself: -1 where one does not come. N of what goes somewhere is the number of a mark until all is written.
type aPlainLower struct {
	m      impl.Module
	f      impl.Func
	at     int
	lines  []impl.Line
	goes   []int
	places []int64
}

func (l *aPlainLower) box(height int64) int64 { return l.f.Args + l.f.Locals + height }

func (l *aPlainLower) put(lines ...impl.Line) {
	for _, line := range lines {
		if line.Kind == 5 || line.Kind == 6 {
			l.goes = append(l.goes, len(l.lines))
		}
		l.lines = append(l.lines, line)
	}
}

func (l *aPlainLower) mark(base, width int64) aMark {
	l.places = append(l.places, -1)
	return aMark{int64(len(l.places)) - 1, base, width}
}

func (l *aPlainLower) here(m aMark) { l.places[m.number] = int64(len(l.lines)) }

// jump goes by a label with the box that goes along.
func (l *aPlainLower) jump(m aMark, box int64) {
	if m.width == 1 && box != l.box(m.base) {
		l.put(lnMove(l.box(m.base), box))
	}
	l.put(lnJump(m.number))
}

func (l *aPlainLower) jumpIf(m aMark, height int64) {
	top := l.box(height - 1)
	if m.width == 0 || height-2 == m.base {
		l.put(lnIf(top, m.number))
		return
	}
	stays := l.mark(0, 0)
	l.put(lnZero(top, top), lnIf(top, stays.number))
	l.jump(m, top-1)
	l.here(stays)
}

func (l *aPlainLower) call(s impl.Step, height int64) {
	callee := l.m.Funcs[s.A]
	call := lnCall(l.box(20), s.A)
	for i := range callee.Args {
		call.List = append(call.List, l.box(height-callee.Args+i))
	}
	if callee.Gives == 1 {
		call.D = l.box(height - callee.Args)
	}
	l.put(call)
}

// plain writes a Step that opens, divides and closes nothing, and answers the height behind it; marks has the labels, the outermost first.
func (l *aPlainLower) plain(s impl.Step, marks []aMark, h int64) int64 {
	takes, puts := takesPuts[s.Op-1][0], takesPuts[s.Op-1][1]
	switch s.Op {
	case 1:
		l.put(lnSet(l.box(h), s.A))
	case 2:
		l.put(lnMove(l.box(h), s.A))
	case 3, 4:
		l.put(lnMove(s.A, l.box(h-1)))
	case 5:
		l.put(lnBin(l.box(h-2), l.box(h-2), l.box(h-1), s.A))
	case 6:
		l.put(lnZero(l.box(h-1), l.box(h-1)))
	case 13:
		l.jump(marks[len(marks)-1-int(s.A)], l.box(h-1))
	case 14:
		l.jumpIf(marks[len(marks)-1-int(s.A)], h)
	case 15:
		l.jump(marks[0], l.box(h-1))
	case 16:
		l.call(s, h)
		takes, puts = l.m.Funcs[s.A].Args, l.m.Funcs[s.A].Gives
	case 17:
		l.put(lnLoad(l.box(h-1), l.box(h-1), s.A))
	case 18:
		l.put(lnStore(l.box(h-2), l.box(h-1), s.A))
	case 19:
		l.put(lnTrap())
	}
	if s.Op == 13 || s.Op == 15 || s.Op == 19 {
		return -1
	}
	return h - takes + puts
}

// opened writes from a Step that opens to behind its SpEnd.
func (l *aPlainLower) opened(s impl.Step, marks []aMark, h int64) int64 {
	if h < 0 {
		l.within(marks, -1)
		if l.f.Body[l.at-1].Op == 11 {
			l.within(marks, -1)
		}
		return -1
	}
	label, other := l.mark(h, s.A), l.mark(0, 0)
	switch s.Op {
	case 9:
		l.here(label)
	case 10:
		h--
		label.base--
		l.put(lnZero(l.box(h), l.box(h)), lnIf(l.box(h), other.number))
	}
	inside := append(slices.Clone(marks), label)
	last := l.within(inside, h)
	if l.f.Body[l.at-1].Op == 11 {
		if last >= 0 {
			l.put(lnJump(label.number))
		}
		l.here(other)
		l.within(inside, h)
	} else {
		l.here(other)
	}
	if s.Op != 9 {
		l.here(label)
	}
	return h + s.A
}

// within writes up to behind the SpElse or SpEnd of what is open, and answers the height there.
func (l *aPlainLower) within(marks []aMark, h int64) int64 {
	for {
		s := l.f.Body[l.at]
		l.at++
		switch {
		case s.Op == 11 || s.Op == 12:
			return h
		case s.Op >= 8 && s.Op <= 10:
			h = l.opened(s, marks, h)
		case h >= 0:
			h = l.plain(s, marks, h)
		}
	}
}

// plainLowered answers what Lowered should.
func plainLowered(m impl.Module, k int64) []impl.Line {
	for i := range m.Funcs {
		if _, _, is := plainLook(m, int64(i)); !is {
			return nil
		}
	}
	if k < 0 || k >= int64(len(m.Funcs)) {
		return nil
	}
	l := aPlainLower{m: m, f: m.Funcs[k]}
	for local := range l.f.Locals {
		l.put(lnSet(l.f.Args+local, 0))
	}
	end := l.mark(0, l.f.Gives)
	l.within([]aMark{end}, 0)
	l.here(end)
	if l.f.Gives == 1 {
		l.put(lnGive(l.box(0)))
	} else {
		l.put(lnSet(l.box(20), 0), lnGive(l.box(20)))
	}
	for _, i := range l.goes {
		l.lines[i].N = l.places[l.lines[i].N]
	}
	if len(l.lines) > 300 {
		return nil
	}
	return l.lines
}

// showLines has one line a Line.
func showLines(list []impl.Line) string {
	text := ""
	for i, l := range list {
		text += fmt.Sprintf("\n%d: %v", i, l)
	}
	return text
}

// wantThere asks P10 of lines that are not none, by the rules written by hand.
func wantThere(t *testing.T, f impl.Func, list []impl.Line) {
	t.Helper()
	spare := f.Args + f.Locals + 20
	for i, l := range list {
		if (l.Kind == 5 || l.Kind == 6) && (l.N < 0 || l.N >= int64(len(list))) {
			t.Fatalf("line %d of %s goes to %d: %s", i, showPile(f), l.N, showLines(list))
		}
		if _, is := plainLineRule(l); !is || plainSets(l) > spare || slices.ContainsFunc(plainUses(l), func(box int64) bool { return box > spare }) {
			t.Fatalf("line %d of %s has to do with another box than the spare one, %d: %s", i, showPile(f), spare, showLines(list))
		}
	}
	if !plainLinesOk(list) || !impl.LinesOk(list) || impl.Boxes(list) > spare+1 || impl.SpareOf(f) != spare {
		t.Fatalf("%s has %d as its spare box; LinesOk %v, Boxes %d: %s", showPile(f), impl.SpareOf(f), impl.LinesOk(list), impl.Boxes(list), showLines(list))
	}
}

func wantLowered(t *testing.T, m impl.Module, k int64, want []impl.Line) {
	t.Helper()
	if got := impl.Lowered(m, k); !sameLines(got, want) {
		t.Fatalf("Lowered(%s, %d) is %s\nand not %s", showPiles(m), k, showLines(got), showLines(want))
	}
	if len(want) > 0 {
		wantThere(t, m.Funcs[k], want)
	}
}

// wantAllLowered asks of each Func, of all of them, and of those that are not there.
func wantAllLowered(t *testing.T, m impl.Module) bool {
	t.Helper()
	all, is := impl.AllLowered(m)
	valid := true
	for k := range int64(len(m.Funcs)) {
		want := plainLowered(m, k)
		wantLowered(t, m, k, want)
		valid = valid && len(want) > 0
		if len(want) > 0 && (len(all) <= int(k) || !sameLines(all[k], want)) {
			t.Fatalf("AllLowered(%s) has another Func %d", showPiles(m), k)
		}
	}
	valid = valid && len(m.Funcs) > 0
	if is != valid || valid && len(all) != len(m.Funcs) || !valid && len(all) != 0 {
		t.Fatalf("AllLowered(%s) = %v, %v", showPiles(m), all, is)
	}
	wantLowered(t, m, -1, nil)
	wantLowered(t, m, int64(len(m.Funcs)), nil)
	return valid
}

// P10 of many made modules, line by line as the plain lowering writes them.
func TestLoweredOfManyModules(t *testing.T) {
	maker := newPileMaker(100)
	kinds, lines, fours := map[int64]int{}, 0, 0
	for range 2500 {
		m, _ := maker.madeModule()
		if !wantAllLowered(t, m) {
			t.Fatalf("%s is not lowered", showPiles(m))
		}
		for k := range int64(len(m.Funcs)) {
			list := impl.Lowered(m, k)
			lines += len(list)
			for i, l := range list {
				kinds[l.Kind]++
				if l.Kind == 6 && l.N == int64(i)+3 && list[i+1].Kind == 2 && list[i+2].Kind == 5 && list[i-1].Kind == 4 {
					fours++
				}
			}
		}
	}
	for kind := int64(1); kind <= 11; kind++ {
		if kinds[kind] < 500 {
			t.Fatalf("%v: too few to tell", kinds)
		}
	}
	if lines < 50000 || fours < 300 {
		t.Fatalf("%d lines, %d of SpJumpIf in four: too few to tell", lines, fours)
	}
}

// Modules with one thing changed: nothing where one Func of them is refused, whichever is asked for.
func TestLoweredOfModulesThatAreNearlyRight(t *testing.T) {
	maker := newPileMaker(101)
	counts := map[bool]int{}
	for range 4000 {
		m, _ := maker.madeModule()
		k := maker.next(len(m.Funcs))
		m.Funcs[k] = maker.otherPile(m.Funcs[k])
		counts[wantAllLowered(t, m)]++
	}
	if counts[true] < 500 || counts[false] < 1000 {
		t.Fatalf("%v: too few to tell", counts)
	}
}

// All short bodies of these Steps, against the plain lowering.
func TestLoweredOfAllShortBodies(t *testing.T) {
	letters := pileSteps("const get0 bin block0 block1 loop if0 if1 else end jump0 jump1 jumpif0 return trap drop")
	bodies := [][]impl.Step{{}}
	counts := map[bool]int{}
	for size := range 6 {
		var longer [][]impl.Step
		for _, body := range bodies {
			whole := append(slices.Clone(body), impl.Step{Op: 12})
			if impl.NestOk(whole) {
				for gives := range int64(2) {
					counts[wantAllLowered(t, aModule(impl.Func{Args: 1, Locals: gives, Gives: gives, Body: whole}))]++
				}
			}
			for i := 0; size < 5 && i < len(letters); i++ {
				longer = append(longer, append(slices.Clone(body), letters[i]))
			}
		}
		bodies = longer
	}
	if counts[true] < 3000 || counts[false] < 30000 {
		t.Fatalf("%v: too few to tell", counts)
	}
}
