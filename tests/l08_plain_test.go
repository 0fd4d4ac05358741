package tests

import (
	"fmt"
	"slices"
	"testing"

	"loop.example/g00363/impl"
)

// goesOn, leaves and allEnds tell how one came out of something: at its end, by a jump (from 0 on, how far out the label still is), by a return, or not at all.
const (
	goesOn  = -1
	leaves  = 1000000
	allEnds = -2
)

// aPlainRun means a module by the grammar of its bodies: what is open has a list of its own, and nothing is thrown.
type aPlainRun struct {
	m      impl.Module
	memory []int64
	fuel   int64
	burnt  int64
	code   int64
}

// aPlainCall is a Func that has not ended, within so many others.
type aPlainCall struct {
	r      *aPlainRun
	f      impl.Func
	locals []int64
	at     int
	depth  int64
}

// end notes the code, and that nothing comes behind it.
func (r *aPlainRun) end(code int64) int {
	r.code = code
	return allEnds
}

// call answers what is left on the pile at the end of Func k, and whether it came there.
func (r *aPlainRun) call(k int64, args []int64, depth int64) ([]int64, bool) {
	if depth >= 12 {
		r.end(6)
		return nil, false
	}
	f := r.m.Funcs[k]
	c := aPlainCall{r: r, f: f, depth: depth}
	c.locals = append(slices.Clone(args), make([]int64, f.Locals)...)
	own, out := c.within(nil)
	if out == allEnds {
		return nil, false
	}
	return own[len(own)-int(f.Gives):], true
}

// partner is where the SpElse (where asked for) or SpEnd of what is open behind at stands, found by counting.
func (c *aPlainCall) partner(at int, divided bool) int {
	for depth := 0; ; {
		at++
		switch op := c.f.Body[at].Op; {
		case op == 8 || op == 9 || op == 10:
			depth++
		case depth == 0 && (op == 12 || op == 11 && divided):
			return at
		case op == 12:
			depth--
		}
	}
}

// opened does what opens, with own at hand, and all within it; of a jump further out what was within goes along.
func (c *aPlainCall) opened(own []int64) ([]int64, int) {
	s, from := c.f.Body[c.at], c.at
	end := c.partner(c.at, false)
	if s.Op == 10 {
		taken := own[len(own)-1]
		own = own[:len(own)-1]
		if taken == 0 {
			from = c.partner(c.at, true)
		}
		if from == end {
			c.at = end + 1
			return own, goesOn
		}
	}
	for {
		c.at = from + 1
		inner, out := c.within(nil)
		switch {
		case out == allEnds:
			return nil, allEnds
		case out > 0:
			return inner, out - 1
		case out == 0 && s.Op == 9:
			continue
		}
		c.at = end + 1
		return append(own, inner[len(inner)-int(s.A):]...), goesOn
	}
}

// within does Step by Step up to the SpElse or SpEnd of what is open.
func (c *aPlainCall) within(own []int64) ([]int64, int) {
	for {
		if c.r.burnt == c.r.fuel {
			return nil, c.r.end(5)
		}
		c.r.burnt++
		s, out := c.f.Body[c.at], goesOn
		switch s.Op {
		case 11, 12:
			return own, goesOn
		case 8, 9, 10:
			own, out = c.opened(own)
		default:
			c.at++
			own, out = c.plain(s, own)
		}
		if out != goesOn {
			return own, out
		}
	}
}

// plain does a Step that opens and closes nothing.
func (c *aPlainCall) plain(s impl.Step, own []int64) ([]int64, int) {
	takes := int(takesPuts[s.Op-1][0])
	if s.Op == 16 {
		takes = int(c.r.m.Funcs[s.A].Args)
	}
	taken := slices.Clone(own[len(own)-takes:])
	own = slices.Clone(own[:len(own)-takes])
	switch s.Op {
	case 1:
		return append(own, s.A), goesOn
	case 2:
		return append(own, c.locals[s.A]), goesOn
	case 3:
		c.locals[s.A] = taken[0]
	case 4:
		c.locals[s.A] = taken[0]
		return append(own, taken[0]), goesOn
	case 5:
		value, code := plainDone(s.A, taken[0], taken[1])
		if code != 0 {
			return nil, c.r.end(code)
		}
		return append(own, value), goesOn
	case 6:
		return append(own, flag(taken[0] == 0)), goesOn
	case 13:
		return own, int(s.A)
	case 14:
		if taken[0] != 0 {
			return own, int(s.A)
		}
	case 15:
		return own, leaves
	case 16:
		given, is := c.r.call(s.A, taken, c.depth+1)
		if !is {
			return nil, allEnds
		}
		return append(own, given...), goesOn
	case 17, 18:
		return c.memory(s, own, taken)
	case 19:
		return nil, c.r.end(4)
	}
	return own, goesOn
}

func (c *aPlainCall) memory(s impl.Step, own, taken []int64) ([]int64, int) {
	place := taken[0] + s.A
	if place > 60 {
		return nil, c.r.end(3)
	}
	if s.Op == 17 {
		return append(own, plainLoad(c.r.memory, place)), goesOn
	}
	c.r.memory = plainStore(c.r.memory, place, taken[1])
	return own, goesOn
}

// plainMeant answers what Meant and Burnt should.
func plainMeant(m impl.Module, k int64, args []int64, fuel int64) (impl.Outcome, int64) {
	if !impl.Valid(m) || k < 0 || k >= int64(len(m.Funcs)) || int64(len(args)) != m.Funcs[k].Args || fuel < 0 || fuel > 3000 {
		return impl.Outcome{Code: 7}, -1
	}
	for _, w := range args {
		if w < 0 || w > greatestWord {
			return impl.Outcome{Code: 7}, -1
		}
	}
	r := aPlainRun{m: m, fuel: fuel, memory: append(plainNumbers(m.Data), make([]int64, 64-len(m.Data))...)}
	given, is := r.call(k, args, 0)
	value := int64(0)
	if is && len(given) > 0 {
		value = given[0]
	}
	return impl.Outcome{Code: r.code, Value: value, Memory: r.memory}, r.burnt
}

func sameOutcome(a, b impl.Outcome) bool {
	return a.Code == b.Code && a.Value == b.Value && slices.Equal(a.Memory, b.Memory)
}

// aMeaning is what is asked of Meant and Burnt.
type aMeaning struct {
	m    impl.Module
	k    int64
	args []int64
	fuel int64
}

func (q aMeaning) String() string {
	return fmt.Sprintf("%swith %q: Func %d by %v, fuel %d", showPiles(q.m), q.m.Data, q.k, q.args, q.fuel)
}

// withFuel is the same with another fuel.
func (q aMeaning) withFuel(fuel int64) aMeaning {
	q.fuel = fuel
	return q
}

func (q aMeaning) meant() impl.Outcome { return impl.Meant(q.m, q.k, q.args, q.fuel) }

func (q aMeaning) burnt() int64 { return impl.Burnt(q.m, q.k, q.args, q.fuel) }

func wantOutcome(t *testing.T, q aMeaning, want impl.Outcome, burnt int64) {
	t.Helper()
	if got := q.meant(); !sameOutcome(got, want) {
		t.Fatalf("Meant of %v = %v, want %v", q, got, want)
	}
	if got := q.burnt(); got != burnt {
		t.Fatalf("Burnt of %v = %d, want %d", q, got, burnt)
	}
}

// wantAsPlain holds Meant and Burnt against the plain run, and answers what that says.
func wantAsPlain(t *testing.T, q aMeaning) (impl.Outcome, int64) {
	t.Helper()
	want, burnt := plainMeant(q.m, q.k, q.args, q.fuel)
	wantOutcome(t, q, want, burnt)
	return want, burnt
}

// wantEnough asks P8 of something that does not end by OcFuel and takes so much: with just that, one more, and MaxFuel it means the same; with one less, and with none, it is OcFuel, and the memory is as the plain run has it then.
func wantEnough(t *testing.T, q aMeaning, want impl.Outcome, burnt int64) {
	t.Helper()
	for _, fuel := range []int64{burnt, burnt + 1, burnt + 7, 2999, 3000} {
		if fuel >= burnt && fuel <= 3000 {
			wantOutcome(t, q.withFuel(fuel), want, burnt)
		}
	}
	for _, fuel := range []int64{0, 1, burnt / 2, burnt - 2, burnt - 1} {
		if fuel < 0 || fuel >= burnt {
			continue
		}
		if got, _ := wantAsPlain(t, q.withFuel(fuel)); got.Code != 5 {
			t.Fatalf("%v ends otherwise than by OcFuel, though %d are needed", q.withFuel(fuel), burnt)
		}
	}
}

// wantMeaning asks of what was told by hand: the code, the value, what it takes, and the memory.
func wantMeaning(t *testing.T, m impl.Module, k int64, args []int64, code, value, burnt int64, memory []int64) {
	t.Helper()
	q := aMeaning{m, k, args, 3000}
	want := impl.Outcome{Code: code, Value: value, Memory: memory}
	wantEnough(t, q, want, burnt)
	wantAsPlain(t, q)
}

// wantGives asks of a module without Data that stores nothing.
func wantGives(t *testing.T, m impl.Module, args []int64, value, burnt int64) {
	t.Helper()
	wantMeaning(t, m, 0, args, 0, value, burnt, make([]int64, 64))
}

// wantMishap likewise, of what ends all.
func wantMishap(t *testing.T, m impl.Module, args []int64, code, burnt int64) {
	t.Helper()
	wantMeaning(t, m, 0, args, code, 0, burnt, make([]int64, 64))
}

// aMeaningCase is a Func without Args and Locals, and what it gives and takes.
type aMeaningCase struct {
	text         string
	value, burnt int64
}

func wantCases(t *testing.T, gives int64, list []aMeaningCase) {
	t.Helper()
	for _, c := range list {
		wantGives(t, onePile(gives, c.text), nil, c.value, c.burnt)
	}
}
