package tests

import (
	"slices"
	"testing"

	"loop.example/g00363/impl"
)

// aPlace is where a run of a Func may be: what is open there, with how many were on the pile, the outermost first.
type aPlace struct {
	at, height int64
	open       [][2]int64
}

// aPileRun goes every way that a Func may go, whatever is on the pile, and holds how many there are against Heights.
type aPileRun struct {
	t       *testing.T
	m       impl.Module
	f       impl.Func
	heights []int64
	highest int64
	ends    []int64
	elses   []int64
	seen    map[[2]int64]int
	work    []aPlace
}

func (r *aPileRun) fail(p aPlace, why string) {
	r.t.Helper()
	r.t.Fatalf("%s of %s at Step %d with %d: %s; Heights are %v", showPile(r.f), showPiles(r.m), p.at, p.height, why, r.heights)
}

// leave goes by the label so far out, the body's own one too: what is carried is there within what is innermost.
func (r *aPileRun) leave(p aPlace, out int64) {
	r.t.Helper()
	base, width, target := int64(0), r.f.Gives, int64(len(p.open))-1-out
	if target < -1 {
		r.fail(p, "no label")
	}
	if len(p.open) > 0 {
		base = p.open[len(p.open)-1][1]
	}
	if target < 0 {
		if p.height-base < width {
			r.fail(p, "too few to leave with")
		}
		return
	}
	opener := p.open[target]
	step := r.f.Body[opener[0]]
	width = step.A
	if p.height-base < width {
		r.fail(p, "too few to jump with")
	}
	if step.Op == 9 {
		r.work = append(r.work, aPlace{opener[0] + 1, opener[1], p.open[:target+1]})
		return
	}
	r.work = append(r.work, aPlace{r.ends[opener[0]] + 1, opener[1] + width, p.open[:target]})
}

// divide goes both ways of an SpIf.
func (r *aPileRun) divide(p aPlace) {
	inside := append(slices.Clone(p.open), [2]int64{p.at, p.height})
	r.work = append(r.work, aPlace{p.at + 1, p.height, inside})
	if middle := r.elses[p.at]; middle >= 0 {
		r.work = append(r.work, aPlace{middle + 1, p.height, inside})
	} else {
		r.work = append(r.work, aPlace{r.ends[p.at] + 1, p.height, p.open})
	}
}

// close goes on behind an SpElse's or an SpEnd's thing, or ends.
func (r *aPileRun) close(p aPlace) {
	r.t.Helper()
	base, width, next := int64(0), r.f.Gives, int64(-1)
	if count := len(p.open); count > 0 {
		opened := p.open[count-1]
		base, width, next = opened[1], r.f.Body[opened[0]].A, r.ends[opened[0]]+1
	}
	if p.height != base+width {
		r.fail(p, "another width")
	}
	if next >= 0 {
		r.work = append(r.work, aPlace{next, p.height, p.open[:len(p.open)-1]})
	}
}

func (r *aPileRun) step(p aPlace) {
	r.t.Helper()
	s := r.f.Body[p.at]
	takes, puts := takesPuts[s.Op-1][0], takesPuts[s.Op-1][1]
	if s.Op == 16 {
		takes, puts = r.m.Funcs[s.A].Args, r.m.Funcs[s.A].Gives
	}
	p.height -= takes
	if p.height < 0 || len(p.open) > 0 && p.height < p.open[len(p.open)-1][1] {
		r.fail(p, "takes more than there is")
	}
	p.height += puts
	switch s.Op {
	case 8, 9:
		r.work = append(r.work, aPlace{p.at + 1, p.height, append(slices.Clone(p.open), [2]int64{p.at, p.height})})
	case 10:
		r.divide(p)
	case 11, 12:
		r.close(p)
	case 13:
		r.leave(p, s.A)
	case 14:
		r.leave(p, s.A)
		r.work = append(r.work, aPlace{p.at + 1, p.height, p.open})
	case 15:
		r.leave(p, int64(len(p.open)))
	case 19:
	default:
		r.work = append(r.work, aPlace{p.at + 1, p.height, p.open})
	}
}

// wantRunsAsHigh asks P6 of a Func that is accepted: whichever way it goes.
func wantRunsAsHigh(t *testing.T, m impl.Module, k int64) {
	t.Helper()
	heights, is := impl.Heights(m, k)
	if !is {
		t.Fatalf("%s is refused", showPile(m.Funcs[k]))
	}
	f := m.Funcs[k]
	r := aPileRun{t: t, m: m, f: f, heights: heights, highest: impl.Highest(m, k), ends: impl.Ends(f.Body), elses: impl.Elses(f.Body), seen: map[[2]int64]int{}}
	r.work = []aPlace{{}}
	for len(r.work) > 0 {
		p := r.work[len(r.work)-1]
		r.work = r.work[:len(r.work)-1]
		if heights[p.at] != p.height || p.height > r.highest || p.height > 20 {
			r.fail(p, "it stands otherwise")
		}
		if r.seen[[2]int64{p.at, p.height}]++; r.seen[[2]int64{p.at, p.height}] == 1 {
			r.step(p)
		}
	}
	if r.highest < f.Gives {
		t.Fatalf("Highest of %s is %d", showPile(f), r.highest)
	}
}

// aPileMaker makes Funcs that are accepted, and tells their heights as it makes them.
type aPileMaker struct {
	*aBodyMaker
	built aPileBuilder
	funcs []impl.Func
	f     impl.Func
}

// putStep adds a Step with own within, -1 where one does not come.
func (m *aPileMaker) putStep(s impl.Step, below, own int64) {
	if own >= 0 {
		own += below
	}
	m.built.add(s, 1, own, 0)
}

// fits tells whether a right Step that opens, divides and closes nothing may stand there.
func (m *aPileMaker) fits(s impl.Step, widths []int64, below, own int64) bool {
	takes, puts := takesPuts[s.Op-1][0], takesPuts[s.Op-1][1]
	switch s.Op {
	case 2, 3, 4:
		if s.A >= m.f.Args+m.f.Locals {
			return false
		}
	case 13, 14:
		if s.A >= int64(len(widths)) || own >= 0 && own-takes < widths[s.A] {
			return false
		}
	case 15:
		if own >= 0 && own < m.f.Gives {
			return false
		}
	case 16:
		if s.A >= int64(len(m.funcs)) {
			return false
		}
		takes, puts = m.funcs[s.A].Args, m.funcs[s.A].Gives
	}
	return own < 0 || own >= takes && below+own-takes+puts <= 20
}

// plain adds one Step of any kind that fits, and answers how many are within behind it.
func (m *aPileMaker) plain(widths []int64, below, own int64) int64 {
	step := impl.Step{Op: impl.SpNop}
	for range 12 {
		kind := kindsOfSteps[max(m.next(30)-10, 0)]
		s := impl.Step{Op: kind.op, A: kind.least + int64(m.next(int(min(kind.greatest, 260)-kind.least)+1))}
		if s.Op == 13 || s.Op == 14 {
			s.A = int64(m.next(min(len(widths), 10)))
		}
		leaves := s.Op == 13 || s.Op == 15 || s.Op == 19
		if (s.Op < 8 || s.Op > 12) && m.fits(s, widths, below, own) && (!leaves || m.next(4) == 0) {
			step = s
			break
		}
	}
	m.putStep(step, below, own)
	switch {
	case own < 0 || step.Op == 13 || step.Op == 15 || step.Op == 19:
		return -1
	case step.Op == 16:
		return own - m.funcs[step.A].Args + m.funcs[step.A].Gives
	}
	return own - takesPuts[step.Op-1][0] + takesPuts[step.Op-1][1]
}

// opened adds something that opens, what is within it, and its SpEnd.
func (m *aPileMaker) opened(room int, widths []int64, below, own int64) int64 {
	s := m.opener()
	begin := int64(-1)
	if own >= 0 {
		begin = 0
	}
	if s.Op == 10 && own == 0 || own >= 0 && below+own+s.A > 20 {
		s = impl.Step{Op: 9}
	}
	m.putStep(s, below, own)
	if s.Op == 10 && own > 0 {
		own--
	}
	inside := append([]int64{s.A}, widths...)
	last := m.within(room/2, inside, below+own, begin)
	if s.Op == 10 && (s.A == 1 || m.next(2) == 0) {
		m.putStep(impl.Step{Op: 11}, below+own, last)
		last = m.within(room/2, inside, below+own, begin)
	}
	m.putStep(impl.Step{Op: 12}, below+own, last)
	if own < 0 {
		return -1
	}
	return own + s.A
}

// within adds so many things, and then what makes just as many as the width, where one comes there.
func (m *aPileMaker) within(room int, widths []int64, below, own int64) int64 {
	for count := m.next(room + 1); count > 0; count-- {
		if m.next(5) == 0 {
			own = m.opened(room, widths, below, own)
		} else {
			own = m.plain(widths, below, own)
		}
	}
	for ; own > widths[0]; own-- {
		m.putStep(impl.Step{Op: impl.SpDrop}, below, own)
	}
	for own >= 0 && own < widths[0] {
		m.putStep(impl.Step{Op: impl.SpConst}, below, own)
		own++
	}
	return own
}

// make fills in the body of Func k and answers its heights. What grew longer than a body may be is made again.
func (m *aPileMaker) make(funcs []impl.Func, k int) []int64 {
	m.funcs, m.f = funcs, funcs[k]
	for {
		m.built = aPileBuilder{}
		own := int64(m.next(2) * m.next(21))
		m.built.add(impl.Step{Op: impl.SpConst}, own, 0, 1)
		last := m.within(3+m.next(40), []int64{m.f.Gives}, 0, own)
		m.putStep(impl.Step{Op: impl.SpEnd}, 0, last)
		if len(m.built.body) <= 80 {
			funcs[k].Body = m.built.body
			return m.built.heights
		}
	}
}

// madeModule has 1 to 4 Funcs that are accepted, and their heights.
func (m *aPileMaker) madeModule() (impl.Module, [][]int64) {
	funcs := make([]impl.Func, 1+m.next(4))
	for i := range funcs {
		funcs[i] = impl.Func{Args: int64(m.next(4)), Locals: int64(m.next(4)), Gives: int64(m.next(2))}
	}
	var heights [][]int64
	for i := range funcs {
		heights = append(heights, m.make(funcs, i))
	}
	return impl.Module{Funcs: funcs, Data: manyData(m.state, m.next(65))}, heights
}

func newPileMaker(seed uint64) *aPileMaker { return &aPileMaker{aBodyMaker: newBodyMaker(seed)} }

// P6, and that the heights are those of the making.
func TestHeightsOfManyFuncs(t *testing.T) {
	maker := newPileMaker(1)
	steps, kinds, dead, high := 0, map[int64]int{}, 0, map[int64]int{}
	for range 2500 {
		m, heights := maker.madeModule()
		for k := range int64(len(m.Funcs)) {
			want := heights[k]
			wantHeights(t, m, k, want, max(slices.Max(want), m.Funcs[k].Gives))
			wantAsLooked(t, m, k)
			wantRunsAsHigh(t, m, k)
			high[slices.Max(want)]++
			for i, s := range m.Funcs[k].Body {
				steps++
				if want[i] >= 0 {
					kinds[s.Op]++
				} else {
					dead++
				}
			}
		}
		if !impl.Valid(m) {
			t.Fatalf("Valid is false of %s", showPiles(m))
		}
	}
	for op := int64(1); op <= 20; op++ {
		if kinds[op] < 500 {
			t.Fatalf("%s is come to %d times in %d Steps: too few to tell", pileNames[op-1], kinds[op], steps)
		}
	}
	if dead < 5000 || high[19] < 30 || high[20] < 30 {
		t.Fatalf("%d of %d Steps are not come to, the highest are %v: too few to tell", dead, steps, high)
	}
}

// otherPile is a Func with one Step less, more or another one, two of them changed over, or other Args, Locals or Gives.
func (m *aPileMaker) otherPile(f impl.Func) impl.Func {
	body := slices.Clone(f.Body)
	at, to := m.next(len(body)), m.next(len(body))
	all := append(m.fillers, nestSteps(nestLetters)...)
	step := all[m.next(len(all))]
	switch m.next(8) {
	case 0, 1:
		f.Body = slices.Delete(body, at, at+1)
	case 2, 3:
		f.Body = slices.Insert(body, at, step)
	case 4:
		body[at] = step
		f.Body = body
	case 5:
		body[at], body[to] = body[to], body[at]
		f.Body = body
	case 6:
		f.Args, f.Locals = int64(m.next(4)), int64(m.next(4))
	case 7:
		f.Gives = 1 - f.Gives
	}
	return f
}

// P6, and that Valid is true just where ModuleOk is and all Funcs are accepted.
func TestHeightsOfFuncsThatAreNearlyRight(t *testing.T) {
	maker := newPileMaker(2)
	accepted, others, valid, invalid := 0, 0, 0, 0
	for range 6000 {
		m, _ := maker.madeModule()
		k := maker.next(len(m.Funcs))
		m.Funcs[k] = maker.otherPile(m.Funcs[k])
		all := impl.ModuleOk(m)
		for k := range int64(len(m.Funcs)) {
			if wantAsLooked(t, m, k) {
				wantRunsAsHigh(t, m, k)
				accepted++
			} else {
				all = false
				others++
			}
		}
		if impl.Valid(m) != all {
			t.Fatalf("Valid is %v of %s", !all, showPiles(m))
		}
		valid, invalid = valid+int(flag(all)), invalid+int(flag(!all))
	}
	if accepted < 2000 || others < 2000 || valid < 500 || invalid < 2000 {
		t.Fatalf("%d accepted, %d not, %d valid, %d not: too few to tell", accepted, others, valid, invalid)
	}
}

// All short bodies of these Steps, against the plain look; and each one that is accepted runs as high as it says.
func TestHeightsOfAllShortBodies(t *testing.T) {
	letters := pileSteps("const drop bin block0 block1 loop if0 if1 else end jump0 jump1 jumpif0 return trap")
	bodies := [][]impl.Step{{}}
	counts := map[bool]int{}
	for size := range 6 {
		var longer [][]impl.Step
		for _, body := range bodies {
			whole := append(slices.Clone(body), impl.Step{Op: 12})
			if impl.NestOk(whole) {
				for gives := range int64(2) {
					m := aModule(impl.Func{Gives: gives, Body: whole})
					is := wantAsLooked(t, m, 0)
					counts[is]++
					if is {
						wantRunsAsHigh(t, m, 0)
					}
					if impl.Valid(m) != is {
						t.Fatalf("Valid is %v of %s", !is, showPiles(m))
					}
				}
			}
			if size == 5 {
				continue
			}
			for _, s := range letters {
				longer = append(longer, append(slices.Clone(body), s))
			}
		}
		bodies = longer
	}
	if counts[true] < 3000 || counts[false] < 30000 {
		t.Fatalf("%v: too few to tell", counts)
	}
}
