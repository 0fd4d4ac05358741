package tests

import (
	"slices"
	"strings"
	"testing"

	"loop.example/g00363/impl"
)

// A text of these letters stands for Steps: b SpBlock, l SpLoop, i SpIf, e SpElse, . SpEnd, n another one.
const nestLetters = "blie.n"

func nestSteps(text string) []impl.Step {
	ops := []int64{impl.SpBlock, impl.SpLoop, impl.SpIf, impl.SpElse, impl.SpEnd, impl.SpNop}
	var list []impl.Step
	for _, letter := range []byte(text) {
		list = append(list, impl.Step{Op: ops[strings.IndexByte(nestLetters, letter)]})
	}
	return list
}

// aNest is what the four functions answer of a body: around has a list for each Step.
type aNest struct {
	ends, elses []int64
	around      [][]int64
}

// aNestReader reads Steps by a grammar: what is opened calls itself for what stands within.
type aNestReader struct {
	list []impl.Step
	at   int64
	nest aNest
}

// within goes up to an SpElse or SpEnd that nothing within it has taken; false where there is none.
func (r *aNestReader) within(open []int64) bool {
	for r.at < int64(len(r.list)) {
		r.nest.around[r.at] = open
		switch op := r.list[r.at].Op; {
		case op == 11 || op == 12:
			return true
		case op >= 8 && op <= 10:
			if !r.opened(open) {
				return false
			}
		default:
			r.at++
		}
	}
	return false
}

func (r *aNestReader) opened(open []int64) bool {
	from := r.at
	inside := append([]int64{from}, open...)
	r.at++
	is := r.within(inside)
	if is && r.list[from].Op == 10 && r.list[r.at].Op == 11 {
		r.nest.elses[from] = r.at
		r.at++
		is = r.within(inside)
	}
	if !is || r.list[r.at].Op != 12 {
		return false
	}
	r.nest.ends[from] = r.at
	if middle := r.nest.elses[from]; middle >= 0 {
		r.nest.ends[middle] = r.at
	}
	r.at++
	return true
}

// plainNest says by the grammar and by the table of kinds what a list is.
func plainNest(list []impl.Step) (aNest, bool) {
	for _, s := range list {
		if s.Op < 1 || s.Op > 20 || s.A < kindsOfSteps[s.Op-1].least || s.A > kindsOfSteps[s.Op-1].greatest {
			return aNest{}, false
		}
	}
	if len(list) > 80 {
		return aNest{}, false
	}
	none := slices.Repeat([]int64{-1}, len(list))
	r := aNestReader{list: list, nest: aNest{none, slices.Clone(none), make([][]int64, len(list))}}
	if !r.within(nil) || r.list[r.at].Op != 12 || r.at != int64(len(list))-1 {
		return aNest{}, false
	}
	return r.nest, true
}

// placesOutside are no places of a list of so many; some of them would be if only their last bits were looked at.
func placesOutside(count int) []int64 {
	n := int64(count)
	return []int64{-1, -2, -n, -n - 1, n, n + 1, n + 80, 256, 4294967296, 4294967297, -4294967296, 4294967295, leastInt, leastInt + 1, greatestInt, greatestInt - 1}
}

func wantNest(t *testing.T, list []impl.Step, want aNest) {
	t.Helper()
	if !impl.NestOk(list) {
		t.Fatalf("NestOk(%v) is false", list)
	}
	if got := impl.Ends(list); !slices.Equal(got, want.ends) {
		t.Fatalf("Ends(%v) = %v, want %v", list, got, want.ends)
	}
	if got := impl.Elses(list); !slices.Equal(got, want.elses) {
		t.Fatalf("Elses(%v) = %v, want %v", list, got, want.elses)
	}
	for at := range list {
		if got := impl.Around(list, int64(at)); !slices.Equal(got, want.around[at]) {
			t.Fatalf("Around(%v, %d) = %v, want %v", list, at, got, want.around[at])
		}
	}
	wantNothingAround(t, list, placesOutside(len(list)))
}

func wantNothingAround(t *testing.T, list []impl.Step, places []int64) {
	t.Helper()
	for _, at := range places {
		if got := impl.Around(list, at); len(got) != 0 {
			t.Fatalf("Around(%v, %d) = %v, want nothing", list, at, got)
		}
	}
}

func wantNoBody(t *testing.T, list []impl.Step) {
	t.Helper()
	if impl.NestOk(list) {
		t.Fatalf("NestOk(%v) is true", list)
	}
	if got := impl.Ends(list); len(got) != 0 {
		t.Fatalf("Ends(%v) = %v, want nothing", list, got)
	}
	if got := impl.Elses(list); len(got) != 0 {
		t.Fatalf("Elses(%v) = %v, want nothing", list, got)
	}
	for at := range min(len(list), 90) {
		wantNothingAround(t, list, []int64{int64(at)})
	}
	wantNothingAround(t, list, placesOutside(len(list)))
}

// wantAsNested tells whether it was a body.
func wantAsNested(t *testing.T, list []impl.Step) bool {
	t.Helper()
	want, is := plainNest(list)
	if is {
		wantNest(t, list, want)
	} else {
		wantNoBody(t, list)
	}
	return is
}

// aBodyMaker makes bodies of a fixed sequence by putting right ones together.
type aBodyMaker struct {
	state   uint64
	fillers []impl.Step
}

// newBodyMaker fills bodies with right Steps of all kinds that open, divide and close nothing.
func newBodyMaker(seed uint64) *aBodyMaker {
	fillers := slices.DeleteFunc(rightSteps(), func(s impl.Step) bool { return s.Op >= 8 && s.Op <= 12 })
	return &aBodyMaker{seed, fillers}
}

func (m *aBodyMaker) next(count int) int {
	m.state = m.state*6364136223846793005 + 1442695040888963407
	return int(m.state>>33) % count
}

func (m *aBodyMaker) opener() impl.Step {
	return []impl.Step{{Op: 8}, {Op: 8, A: 1}, {Op: 9}, {Op: 10}, {Op: 10, A: 1}}[m.next(5)]
}

// piece is so many Steps, 1 at least, the first of which opens all of them if they are more.
func (m *aBodyMaker) piece(size int) []impl.Step {
	if size == 1 {
		return []impl.Step{m.fillers[m.next(len(m.fillers))]}
	}
	list := []impl.Step{m.opener()}
	if inner := size - 2; list[0].Op == 10 && inner > 0 && m.next(3) > 0 {
		ahead := m.next(inner)
		list = append(list, m.pieces(ahead)...)
		list = append(list, impl.Step{Op: 11})
		list = append(list, m.pieces(inner-ahead-1)...)
	} else {
		list = append(list, m.pieces(inner)...)
	}
	return append(list, impl.Step{Op: 12})
}

func (m *aBodyMaker) pieces(size int) []impl.Step {
	var list []impl.Step
	for len(list) < size {
		count := 1
		if m.next(3) > 0 {
			count += m.next(size - len(list))
		}
		list = append(list, m.piece(count)...)
	}
	return list
}

func (m *aBodyMaker) body(size int) []impl.Step {
	return append(m.pieces(size-1), impl.Step{Op: 12})
}

func TestNestsByHand(t *testing.T) {
	cases := []struct {
		text string
		want aNest
	}{
		{".", aNest{[]int64{-1}, []int64{-1}, [][]int64{{}}}},
		{"n.", aNest{[]int64{-1, -1}, []int64{-1, -1}, [][]int64{{}, {}}}},
		{"b..", aNest{[]int64{1, -1, -1}, []int64{-1, -1, -1}, [][]int64{{}, {0}, {}}}},
		{"l..", aNest{[]int64{1, -1, -1}, []int64{-1, -1, -1}, [][]int64{{}, {0}, {}}}},
		{"i..", aNest{[]int64{1, -1, -1}, []int64{-1, -1, -1}, [][]int64{{}, {0}, {}}}},
		{"ie..", aNest{[]int64{2, 2, -1, -1}, []int64{1, -1, -1, -1}, [][]int64{{}, {0}, {0}, {}}}},
		{"inen..", aNest{[]int64{4, -1, 4, -1, -1, -1}, []int64{2, -1, -1, -1, -1, -1}, [][]int64{{}, {0}, {0}, {0}, {0}, {}}}},
		{"b.l.i..", aNest{[]int64{1, -1, 3, -1, 5, -1, -1}, slices.Repeat([]int64{-1}, 7), [][]int64{{}, {0}, {}, {2}, {}, {4}, {}}}},
		{"bli....", aNest{[]int64{5, 4, 3, -1, -1, -1, -1}, slices.Repeat([]int64{-1}, 7), [][]int64{{}, {0}, {1, 0}, {2, 1, 0}, {1, 0}, {0}, {}}}},
		{"bie...", aNest{[]int64{4, 3, 3, -1, -1, -1}, []int64{-1, 2, -1, -1, -1, -1}, [][]int64{{}, {0}, {1, 0}, {1, 0}, {0}, {}}}},
		{"iie.e..", aNest{[]int64{5, 3, 3, -1, 5, -1, -1}, []int64{4, 2, -1, -1, -1, -1, -1}, [][]int64{{}, {0}, {1, 0}, {1, 0}, {0}, {0}, {}}}},
		{"ib.el..n.", aNest{[]int64{6, 2, -1, 6, 5, -1, -1, -1, -1}, []int64{3, -1, -1, -1, -1, -1, -1, -1, -1}, [][]int64{{}, {0}, {1, 0}, {0}, {0}, {4, 0}, {0}, {}, {}}}},
		{"ininein..n..", aNest{[]int64{10, -1, 8, -1, 8, 7, -1, -1, -1, -1, -1, -1}, []int64{-1, -1, 4, -1, -1, -1, -1, -1, -1, -1, -1, -1}, [][]int64{{}, {0}, {0}, {2, 0}, {2, 0}, {2, 0}, {5, 2, 0}, {5, 2, 0}, {2, 0}, {0}, {0}, {}}}},
	}
	for _, c := range cases {
		wantNest(t, nestSteps(c.text), c.want)
		wantAsNested(t, nestSteps(c.text))
	}
}

func TestNoBodiesByHand(t *testing.T) {
	texts := []string{
		"", "n", "nn", "b", "l", "i", "e", "bn", "ien", // no SpEnd at the end
		"b.", "l.", "i.", "ie.", "bb..", "bl.n.", "iie..", "b.i.", "ib.e.", // one too few
		"..", "...", "b...", "i....", "ie...", "b.l...", // one too many
		".n", ".b", ".b.", ".b..", ".e", ".i", "b..n", "b..l.", "n.n", "n.n.", "ie..n", ".ie..", // a Step behind the last one
		"e.", "ne.", "en.", "b.e.", "i.e.", "i.en.", "l.e.", "ie.e.", "e..", "ee..", // SpElse outside of everything
		"be..", "le..", "bne..", "lene..", "bien.e..", "ible...", "ilie.e...", // in SpBlock or SpLoop
		"ibe...", "ile...", "ibne.n..", "ienbe...", "ible....", "iib.be....", // inside what was opened within the SpIf
		"iee..", "iene..", "ienen..", "ieb.e..", "ieie.e..", "iie.ee..", "biee...", "ieee..", // a second one of one SpIf
	}
	for _, text := range texts {
		wantNoBody(t, nestSteps(text))
		if wantAsNested(t, nestSteps(text)) {
			t.Fatalf("%q is a body by the grammar", text)
		}
	}
}

// Where a label goes and how high the pile stands is not this chapter's, nor what one comes to.
func TestNestsAskNothingElseOfSteps(t *testing.T) {
	for _, s := range rightSteps() {
		if s.Op >= 8 && s.Op <= 12 {
			continue
		}
		wantNest(t, []impl.Step{s, {Op: 12}}, aNest{[]int64{-1, -1}, []int64{-1, -1}, [][]int64{{}, {}}})
		wantNest(t, []impl.Step{{Op: 9}, s, {Op: 12}, s, {Op: 12}}, aNest{[]int64{2, -1, -1, -1, -1}, slices.Repeat([]int64{-1}, 5), [][]int64{{}, {0}, {0}, {}, {}}})
		wantNest(t, []impl.Step{{Op: 10, A: 1}, s, {Op: 11}, s, {Op: 12}, {Op: 12}}, aNest{[]int64{4, -1, 4, -1, -1, -1}, []int64{2, -1, -1, -1, -1, -1}, [][]int64{{}, {0}, {0}, {0}, {0}, {}}})
		wantNoBody(t, []impl.Step{s})
		wantNoBody(t, []impl.Step{{Op: 12}, s})
	}
}

func TestNestsOfWidths(t *testing.T) {
	for _, s := range []impl.Step{{Op: 8}, {Op: 8, A: 1}, {Op: 9}, {Op: 10}, {Op: 10, A: 1}} {
		wantNest(t, []impl.Step{s, {Op: 12}, {Op: 12}}, aNest{[]int64{1, -1, -1}, []int64{-1, -1, -1}, [][]int64{{}, {0}, {}}})
		if list := []impl.Step{s, {Op: 11}, {Op: 12}, {Op: 12}}; wantAsNested(t, list) != (s.Op == 10) {
			t.Fatalf("NestOk(%v) is %v", list, impl.NestOk(list))
		}
	}
}

// P5: all lists of few Steps, against the grammar; and there are as many bodies as the grammar has words.
func TestNestsOfAllShortLists(t *testing.T) {
	words := []int{1}
	for size := 1; size <= 6; size++ {
		count := words[size-1]
		for first := range size - 1 {
			count += 3 * words[first] * words[size-2-first]
			for second := range size - 2 - first {
				count += words[first] * words[second] * words[size-3-first-second]
			}
		}
		words = append(words, count)
	}
	texts := []string{""}
	for size := range 8 {
		bodies := 0
		var next []string
		for _, text := range texts {
			if wantAsNested(t, nestSteps(text)) {
				bodies++
			}
			for _, letter := range nestLetters {
				next = append(next, text+string(letter))
			}
		}
		if size == 0 && bodies != 0 || size > 0 && bodies != words[size-1] {
			t.Fatalf("%d bodies of %d Steps, the words are %v", bodies, size, words)
		}
		texts = next
	}
}

func TestNestsOfManyBodies(t *testing.T) {
	maker := newBodyMaker(1)
	for i := range 1200 {
		if list := maker.body(1 + i%80); !wantAsNested(t, list) {
			t.Fatalf("%v is no body by the grammar", list)
		}
	}
}

// otherSteps is list with one Step less, more, or another one, or with two of them changed over.
func otherSteps(m *aBodyMaker, list []impl.Step) []impl.Step {
	other := slices.Clone(list)
	at, to := m.next(len(list)), m.next(len(list))
	step := append(nestSteps(nestLetters), impl.Step{Op: 8, A: 1}, impl.Step{Op: 8, A: 2}, impl.Step{Op: 12, A: 1}, impl.Step{})[m.next(10)]
	switch m.next(4) {
	case 0:
		return slices.Delete(other, at, at+1)
	case 1:
		return slices.Insert(other, at, step)
	case 2:
		other[at] = step
	case 3:
		other[at], other[to] = other[to], other[at]
	}
	return other
}

func TestNestsOfBodiesThatAreNearlyRight(t *testing.T) {
	maker := newBodyMaker(2)
	bodies, others := 0, 0
	for i := range 4000 {
		if wantAsNested(t, otherSteps(maker, maker.body(1+i%80))) {
			bodies++
		} else {
			others++
		}
	}
	if bodies < 500 || others < 500 {
		t.Fatalf("%d bodies and %d others are too few to tell", bodies, others)
	}
}

// A body is none any more where its end is cut off, where one more Step stands behind it, or one that closes, divides or opens ahead of it.
func TestNestsOfPiecesOfBodies(t *testing.T) {
	maker := newBodyMaker(3)
	for size := 1; size <= 79; size++ {
		list := maker.body(size)
		for cut := range list {
			wantNoBody(t, list[:cut])
		}
		for _, s := range append(nestSteps(nestLetters), maker.fillers[:20]...) {
			wantNoBody(t, append(slices.Clone(list), s))
		}
		wantNoBody(t, append([]impl.Step{{Op: 12}}, list...))
		wantNoBody(t, append([]impl.Step{{Op: 11}}, list...))
		wantNoBody(t, append([]impl.Step{{Op: 8}}, list...))
	}
}
