package tests

import (
	"slices"
	"testing"

	"loop.example/g00363/impl"
)

// What is wanted behind a call that sets another box crosses.
func TestCrossAtACall(t *testing.T) {
	wantSpans(t, []impl.Line{lnSet(0, 5), lnCall(1, 0), lnBin(0, 0, 1, 1), lnGive(0)}, crossed(0, 0, 3), span(1, 1, 2))
	wantSpans(t, []impl.Line{lnCall(1, 0), lnGive(0)}, crossed(0, 0, 1), span(1, 0, 0))
	wantSpans(t, []impl.Line{lnCall(39, 3), lnStore(37, 38, 0), lnGive(36)}, crossed(36, 0, 2), crossed(37, 0, 1), crossed(38, 0, 1), span(39, 0, 0))
	// It is what the call reads, too, and is wanted behind it.
	wantSpans(t, []impl.Line{lnCall(1, 0, 0, 2), lnBin(0, 0, 1, 1), lnGive(0)}, crossed(0, 0, 2), span(1, 0, 1), span(2, 0, 0))
	// It is wanted by one of two ways behind the call.
	wantSpans(t, []impl.Line{lnCall(1, 0), lnIf(1, 3), lnTrap(), lnGive(0)}, crossed(0, 0, 3), span(1, 0, 1))
	for _, rows := range someRows[1:] {
		for _, at := range placesAmong(rows - 1) {
			list := append(slices.Repeat([]impl.Line{lnStore(4, 5, 0)}, int(rows)-1), lnGive(3))
			list[at] = lnCall(1, 0)
			for box, cross := range map[int64]bool{3: true, 4: at < rows-2, 5: at < rows-2} {
				s, is := spanOf(impl.Spans(list), box)
				if is != (box == 3 || rows > 2) || is && s.Cross != cross {
					t.Fatalf("with a call at %d of %d the Span of box %d is %v", at, rows, box, s)
				}
			}
			wantAsSpanned(t, list)
		}
	}
}

// What the call itself sets does not cross it, however it is wanted behind it and ahead of it.
func TestNoCrossAtACallThatSetsIt(t *testing.T) {
	wantSpans(t, []impl.Line{lnCall(1, 0), lnGive(1)}, span(1, 0, 1))
	wantSpans(t, []impl.Line{lnSet(1, 5), lnCall(1, 0), lnGive(1)}, span(1, 0, 2))
	wantSpans(t, []impl.Line{lnSet(1, 5), lnCall(1, 0, 1), lnGive(1)}, span(1, 0, 2))
	wantSpans(t, []impl.Line{lnCall(1, 0, 1, 1, 1), lnStore(1, 1, 0), lnJump(0)}, span(1, 0, 2))
	for box := range int64(40) {
		wantSpans(t, []impl.Line{lnCall(box, 3), lnCall(box, 2, box), lnGive(box)}, span(box, 0, 2))
	}
}

// What nobody wants behind the call does not cross it, though it is wanted ahead of it.
func TestNoCrossAtACallBehindWhichItIsNotWanted(t *testing.T) {
	wantSpans(t, []impl.Line{lnSet(0, 5), lnCall(1, 0, 0), lnGive(1)}, span(0, 0, 1), span(1, 1, 2))
	wantSpans(t, []impl.Line{lnCall(1, 0, 5, 2, 5), lnGive(1)}, span(1, 0, 1), span(2, 0, 0), span(5, 0, 0))
	// It is set again behind the call: its Span has the call within it all the same.
	wantSpans(t, []impl.Line{lnStore(2, 2, 0), lnCall(1, 0), lnSet(2, 1), lnStore(2, 1, 0), lnTrap()}, span(1, 1, 3), span(2, 0, 3))
	wantSpans(t, []impl.Line{lnSet(2, 5), lnCall(1, 0, 2), lnMove(2, 1), lnGive(2)}, span(1, 1, 2), span(2, 0, 3))
	// It is only set, ahead of the call and behind it.
	wantSpans(t, []impl.Line{lnSet(2, 5), lnCall(1, 0), lnSet(2, 5), lnTrap()}, span(1, 1, 1), span(2, 0, 2))
	// The call is jumped over.
	wantSpans(t, []impl.Line{lnSet(2, 5), lnIf(0, 4), lnCall(1, 0), lnTrap(), lnGive(2)}, span(0, 0, 1), span(1, 2, 2), span(2, 0, 4))
}

// One of two calls is enough, whichever it is.
func TestCrossAtOneOfTwoCalls(t *testing.T) {
	wantSpans(t, []impl.Line{lnCall(1, 0), lnCall(2, 0, 0), lnGive(2)}, crossed(0, 0, 1), span(1, 0, 0), span(2, 1, 2))
	wantSpans(t, []impl.Line{lnCall(0, 0), lnCall(2, 0), lnGive(0)}, crossed(0, 0, 2), span(2, 1, 1))
	wantSpans(t, []impl.Line{lnCall(2, 0), lnCall(0, 0), lnStore(0, 2, 0), lnTrap()}, span(0, 1, 2), crossed(2, 0, 2))
	wantSpans(t, []impl.Line{lnCall(2, 0), lnCall(0, 0, 0, 2), lnGive(0)}, crossed(0, 0, 2), span(2, 0, 1))
	wantSpans(t, []impl.Line{lnCall(2, 0, 2), lnCall(0, 0, 2), lnGive(0)}, span(0, 1, 2), span(2, 0, 1))
	wantSpans(t, []impl.Line{lnCall(1, 0), lnCall(1, 0), lnGive(0)}, crossed(0, 0, 2), span(1, 0, 1))
}

// Round a loop, the call crosses what is wanted ahead of it, too.
func TestCrossRoundALoop(t *testing.T) {
	wantSpans(t, []impl.Line{lnStore(3, 3, 0), lnCall(1, 0), lnJump(0)}, span(1, 1, 1), crossed(3, 0, 2))
	wantSpans(t, []impl.Line{lnSet(3, 1), lnStore(3, 3, 0), lnCall(1, 0), lnJump(0)}, span(1, 2, 2), span(3, 0, 1))
	wantSpans(t, []impl.Line{lnCall(1, 0, 3), lnSet(3, 1), lnJump(0)}, span(1, 0, 0), span(3, 0, 2))
	wantSpans(t, []impl.Line{lnStore(3, 4, 0), lnCall(3, 0), lnJump(0)}, span(3, 0, 2), crossed(4, 0, 2))
}

// Of all other Kinds nothing crosses, whatever they read and set.
func TestNoCrossWithoutACall(t *testing.T) {
	maker := newLineMaker(144)
	rules := slices.Concat(lineRules[:6], lineRules[7:])
	for i := range 300 {
		rows := 1 + i%40
		var list []impl.Line
		for range rows - 1 {
			list = append(list, maker.line(rules, rows))
		}
		list = append(list, lnGive(maker.box()))
		for _, s := range impl.Spans(list) {
			if s.Cross {
				t.Fatalf("%v crosses, of%s", s, showLines(list))
			}
		}
		wantAsSpanned(t, list)
	}
	for _, r := range lineRules {
		l := r.leastLine()
		for _, last := range []impl.Line{lnGive(5), lnGive(0), lnJump(1)} {
			list := []impl.Line{lnStore(5, 6, 0), lnStore(5, 0, 0), l, last}
			if s, is := spanOf(impl.Spans(list), 5); !is || s.Cross && r.kind != 7 {
				t.Fatalf("the Span of box 5 is %v, of%s", s, showLines(list))
			}
			wantAsSpanned(t, list)
		}
	}
}

// A call sets one box alone: each of the others that is wanted behind it crosses.
func TestCrossOfAllBoxes(t *testing.T) {
	for box := range int64(40) {
		list := []impl.Line{lnCall(box, 0)}
		for other := int64(0); other < 40; other += 2 {
			list = append(list, lnStore(other, other+1, 0))
		}
		list = append(list, lnTrap())
		var want []impl.Span
		for other := range int64(40) {
			want = append(want, crossed(other, 0, 1+other/2))
		}
		want[box].Cross = false
		wantSpans(t, list, want...)
	}
}

// withBehindCalls has one line more behind each call that sets another box than l; who jumps goes on to the same lines.
func withBehindCalls(list []impl.Line, l impl.Line) []impl.Line {
	var others []impl.Line
	var places []int64
	for _, old := range list {
		places = append(places, int64(len(others)))
		others = append(others, old)
		if old.Kind == impl.LnCall && old.D != l.D {
			others = append(others, l)
		}
	}
	for i, other := range others {
		if other.Kind == impl.LnJump || other.Kind == impl.LnIf {
			others[i].N = places[other.N]
		}
	}
	return others
}

// A box that does not cross may be any word behind a call that sets another one: the lines come to the same.
func TestWhatDoesNotCrossMayBeAnyWordBehindACall(t *testing.T) {
	others, crosses := 0, 0
	for i, q := range manyRunnings(145, 4000) {
		q.fuel = 20000
		want := q.outcome()
		if want.Code == impl.OcFuel {
			continue
		}
		for _, s := range impl.Spans(q.codes[q.k]) {
			other := q.copied()
			other.fuel *= 2
			other.codes[q.k] = withBehindCalls(other.codes[q.k], lnSet(s.Box, 305419896))
			if s.Cross {
				crosses += int(flag(!sameOutcome(other.outcome(), want)))
				continue
			}
			others += int(flag(len(other.codes[q.k]) > len(q.codes[q.k])))
			if got := other.outcome(); !sameOutcome(got, want) {
				t.Fatalf("%d: with %v another word behind calls %v comes to %v, not %v", i, s, q, got, want)
			}
		}
	}
	if others < 5000 || crosses < 60 {
		t.Fatalf("%d do not cross, and %d that cross come to something else: too few to tell", others, crosses)
	}
}
