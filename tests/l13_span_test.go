package tests

import (
	"slices"
	"testing"

	"loop.example/g00363/impl"
)

// span is one that no call crosses.
func span(box, from, to int64) impl.Span { return impl.Span{Box: box, From: from, To: to} }

// crossed is one that a call crosses.
func crossed(box, from, to int64) impl.Span {
	return impl.Span{Box: box, From: from, To: to, Cross: true}
}

func TestSpansByHand(t *testing.T) {
	wantSpans(t, []impl.Line{lnGive(0)}, span(0, 0, 0))
	wantSpans(t, []impl.Line{lnGive(39)}, span(39, 0, 0))
	wantSpans(t, []impl.Line{lnSet(0, 5), lnSet(1, 1), lnSet(2, 2), lnIf(2, 4), lnBin(0, 0, 1, impl.BoAdd), lnGive(0)}, span(0, 0, 5), span(1, 1, 4), span(2, 2, 3))
	wantSpans(t, []impl.Line{lnLoad(3, 1, 8), lnStore(2, 3, 4), lnCall(5, 1, 0), lnMove(4, 5), lnZero(1, 4), lnGive(1)},
		span(0, 0, 2), span(1, 0, 5), span(2, 0, 1), span(3, 0, 1), span(4, 3, 4), span(5, 2, 3))
	// As many lines as there may be.
	wantSpans(t, manyMoves(300), span(0, 0, 299), span(1, 0, 298), span(2, 0, 298))
	// The lines between count, also where the box is wanted at none of them: box 1 is wanted at lines 0 and 3 only.
	wantSpans(t, []impl.Line{lnStore(1, 1, 0), lnSet(2, 7), lnStore(2, 2, 0), lnMove(1, 0), lnGive(0)}, span(0, 0, 4), span(1, 0, 3), span(2, 1, 2))
}

// A box that one line sets, and nobody uses, has that line alone: wherever it stands, whatever sets it.
func TestSpansOfBoxesThatAreOnlySet(t *testing.T) {
	wantSpans(t, []impl.Line{lnSet(3, 1), lnTrap()}, span(3, 0, 0))
	wantSpans(t, []impl.Line{lnSet(3, 1), lnJump(1)}, span(3, 0, 0))
	wantSpans(t, []impl.Line{lnJump(1), lnSet(3, 1), lnGive(0)}, span(0, 0, 2), span(3, 1, 1))
	wantSpans(t, []impl.Line{lnMove(3, 0), lnGive(0)}, span(0, 0, 1), span(3, 0, 0))
	for _, r := range lineRules {
		for box := range int64(40) {
			if !r.d {
				continue
			}
			l := r.leastLine()
			l.D, l.A, l.B = box, (box+1)%40*flag(r.a), (box+1)%40*flag(r.b)
			for _, rows := range someRows[2:] {
				for _, at := range placesAmong(rows - 1) {
					list := among(l, at, rows)
					if s, is := spanOf(impl.Spans(list), box); !is || s != span(box, at, at) {
						t.Fatalf("the Span of box %d, which line %d of %d sets, is %v, of %v", box, at, rows, s, l)
					}
				}
			}
		}
	}
}

// A box that is set more than once and never used has the lines from the first one that sets it to the last.
func TestSpansOfBoxesThatAreSetAndNeverUsed(t *testing.T) {
	wantSpans(t, []impl.Line{lnSet(3, 1), lnSet(3, 2), lnTrap()}, span(3, 0, 1))
	wantSpans(t, []impl.Line{lnSet(3, 1), lnSet(4, 5), lnStore(4, 4, 0), lnMove(3, 4), lnTrap()}, span(3, 0, 3), span(4, 1, 3))
	wantSpans(t, []impl.Line{lnTrap(), lnSet(7, 1), lnTrap(), lnSet(7, 1), lnTrap()}, span(7, 1, 3))
	wantSpans(t, []impl.Line{lnJump(3), lnSet(2, 1), lnJump(5), lnSet(2, 2), lnIf(0, 1), lnTrap()}, span(0, 0, 4), span(2, 1, 3))
}

// A box that is used and never set is wanted from the first line on, as far as it goes.
func TestSpansOfBoxesThatAreNeverSet(t *testing.T) {
	wantSpans(t, []impl.Line{lnStore(1, 2, 0), lnStore(2, 3, 0), lnGive(3)}, span(1, 0, 0), span(2, 0, 1), span(3, 0, 2))
	for _, rows := range someRows {
		list := append(slices.Repeat([]impl.Line{lnJump(rows - 1)}, int(rows)-1), lnGive(6))
		wantSpans(t, list, span(6, 0, rows-1))
		if rows > 1 {
			list = append(slices.Repeat([]impl.Line{lnSet(5, 0)}, int(rows)-1), lnGive(6))
			wantSpans(t, list, span(5, 0, rows-2), span(6, 0, rows-1))
		}
	}
}

// A box that is wanted round a loop has all of it, also the lines behind the last one that uses it.
func TestSpansRoundLoops(t *testing.T) {
	// Box 0 is set once, and used at line 1 alone: the jump goes back there.
	wantSpans(t, []impl.Line{lnSet(0, 9), lnStore(0, 0, 0), lnSet(1, 1), lnSet(1, 2), lnJump(1)}, span(0, 0, 4), span(1, 2, 3))
	// Box 1 is set in the loop first: behind line 2 nobody wants it any more.
	wantSpans(t, []impl.Line{lnSet(2, 9), lnMove(1, 2), lnStore(1, 1, 0), lnSet(3, 1), lnJump(1)}, span(1, 1, 2), span(2, 0, 4), span(3, 3, 3))
	// Box 1 is used ahead of being set: it goes round from the last line to the first.
	wantSpans(t, []impl.Line{lnSet(3, 1), lnStore(1, 1, 0), lnSet(1, 5), lnSet(3, 1), lnJump(0)}, span(1, 0, 4), span(3, 0, 3))
	wantSpans(t, []impl.Line{lnSet(1, 0), lnBin(1, 1, 0, 1), lnSet(2, 1), lnBin(0, 0, 2, 2), lnIf(0, 1), lnGive(1)}, span(0, 0, 4), span(1, 0, 5), span(2, 2, 3))
	wantSpans(t, []impl.Line{lnIf(0, 0), lnGive(1)}, span(0, 0, 0), span(1, 0, 1))
	wantSpans(t, []impl.Line{lnSet(0, 1), lnJump(1)}, span(0, 0, 0))
	// The inner loop hands box 2 round, the outer one box 1.
	wantSpans(t, []impl.Line{lnMove(2, 0), lnBin(2, 2, 3, 2), lnIf(2, 1), lnBin(1, 1, 3, 2), lnIf(1, 0), lnGive(4)},
		span(0, 0, 4), span(1, 0, 4), span(2, 0, 2), span(3, 0, 4), span(4, 0, 5))
	for _, rows := range someRows[2:] {
		list := append([]impl.Line{lnSet(0, 1), lnStore(0, 0, 0)}, slices.Repeat([]impl.Line{lnSet(1, 1)}, int(rows)-3)...)
		list = append(list, lnJump(1))
		want := []impl.Span{span(0, 0, rows-1), span(1, 2, rows-2)}
		wantSpans(t, list, want[:min(len(want), int(rows)-2)]...)
	}
}

// Only the jump asks for box 5 at line 2, which stands behind all that uses and sets it.
func TestSpansOfLinesThatGoBackAlone(t *testing.T) {
	wantSpans(t, []impl.Line{lnJump(2), lnGive(5), lnJump(1)}, span(5, 0, 2))
	wantSpans(t, []impl.Line{lnJump(3), lnStore(5, 6, 0), lnGive(7), lnJump(1)}, span(5, 0, 3), span(6, 0, 3), span(7, 0, 3))
	// Nobody comes to the last line, and it comes to line 1: behind it box 5 is wanted, too.
	wantSpans(t, []impl.Line{lnSet(5, 1), lnGive(5), lnJump(1)}, span(5, 0, 2))
	wantSpans(t, []impl.Line{lnSet(5, 1), lnGive(5), lnTrap(), lnJump(0)}, span(5, 0, 1))
}

// byBox are these Spans in order.
func byBox(spans ...impl.Span) []impl.Span {
	slices.SortFunc(spans, func(a, b impl.Span) int { return int(a.Box - b.Box) })
	return spans
}

// A box whose last line is the last of all: the last line gives it, or goes back to where it is wanted.
func TestSpansToTheLastLine(t *testing.T) {
	for _, rows := range someRows[1:] {
		for box := range int64(40) {
			other := (box + 1) % 40
			list := slices.Repeat([]impl.Line{lnStore(other, other, 0)}, int(rows))
			list[rows-1] = lnGive(box)
			wantSpans(t, list, byBox(span(box, 0, rows-1), span(other, 0, rows-2))...)
			list[rows-1] = lnJump(0)
			wantSpans(t, list, span(other, 0, rows-1))
			list[rows-1] = lnTrap()
			wantSpans(t, list, span(other, 0, rows-2))
		}
	}
	// It begins and ends there.
	wantSpans(t, []impl.Line{lnTrap(), lnTrap(), lnGive(8)}, span(8, 2, 2))
	wantSpans(t, append(slices.Repeat([]impl.Line{lnTrap()}, 299), lnGive(8)), span(8, 299, 299))
}

// A box that is LiveOut of lines that neither use nor set it has these lines.
func TestSpansOfLinesThatHandOn(t *testing.T) {
	// Line 2 does nothing with box 4; where it ends, box 4 is wanted behind it.
	wantSpans(t, []impl.Line{lnSet(4, 1), lnJump(3), lnJump(3), lnGive(4)}, span(4, 0, 3))
	// Box 4 is wanted on one way only: the other way goes on behind it.
	wantSpans(t, []impl.Line{lnIf(0, 3), lnSet(1, 1), lnTrap(), lnGive(4)}, span(0, 0, 0), span(1, 1, 1), span(4, 0, 3))
	// Line 4 stands behind all that have to do with box 4, and comes back to them.
	wantSpans(t, []impl.Line{lnJump(4), lnSet(1, 1), lnGive(4), lnTrap(), lnJump(1)}, span(1, 1, 1), span(4, 0, 4))
	for _, rows := range someRows[2:] {
		list := append([]impl.Line{lnSet(4, 1)}, slices.Repeat([]impl.Line{lnStore(0, 1, 0)}, int(rows)-2)...)
		wantSpans(t, append(list, lnGive(4)), span(0, 0, rows-2), span(1, 0, rows-2), span(4, 0, rows-1))
	}
}

// Lines that nobody comes to have boxes like any others.
func TestSpansOfLinesThatNobodyComesTo(t *testing.T) {
	wantSpans(t, []impl.Line{lnGive(1), lnGive(2), lnGive(3)}, span(1, 0, 0), span(2, 1, 1), span(3, 2, 2))
	wantSpans(t, []impl.Line{lnJump(2), lnMove(1, 9), lnGive(0)}, span(0, 0, 2), span(1, 1, 1), span(9, 1, 1))
	wantSpans(t, []impl.Line{lnGive(0), lnMove(1, 1), lnMove(1, 1), lnGive(0)}, span(0, 0, 3), span(1, 1, 2))
	wantSpans(t, []impl.Line{lnTrap(), lnCall(2, 0, 3), lnStore(2, 4, 0), lnTrap()}, span(2, 1, 2), span(3, 1, 1), crossed(4, 1, 2))
}

// Each box that a line tells has a Span where that line alone has to do with it, whatever its Kind and field; a box that no line tells has none.
func TestSpansOfEachField(t *testing.T) {
	for _, r := range lineRules {
		for box := range int64(40) {
			for i, field := range boxFields {
				l := r.leastLine()
				if !r.told()[i] {
					continue
				}
				field.write(&l, box)
				for _, list := range [][]impl.Line{{l, lnTrap()}, {lnTrap(), l, lnTrap()}, {lnJump(1), lnTrap(), lnGive(0), l, lnTrap()}} {
					if _, is := spanOf(impl.Spans(list), box); !is || !wantAsSpanned(t, list) {
						t.Fatalf("box %d has no Span, of%s", box, showLines(list))
					}
				}
			}
		}
	}
	for _, list := range [][]impl.Line{{lnTrap()}, {lnJump(0)}, {lnJump(1), lnTrap()}, slices.Repeat([]impl.Line{lnJump(0)}, 300), slices.Repeat([]impl.Line{lnTrap()}, 300)} {
		wantSpans(t, list)
	}
}

// They are told by Box, whatever the lines and the ends are; each box once, however many lines have to do with it.
func TestSpansRise(t *testing.T) {
	wantSpans(t, []impl.Line{lnSet(9, 1), lnSet(0, 1), lnSet(39, 1), lnSet(5, 1), lnSet(4, 1), lnTrap()}, span(0, 1, 1), span(4, 4, 4), span(5, 3, 3), span(9, 0, 0), span(39, 2, 2))
	wantSpans(t, []impl.Line{lnMove(7, 7), lnMove(7, 7), lnBin(7, 7, 7, 1), lnCall(7, 0, 7, 7, 7), lnStore(7, 7, 0), lnGive(7)}, span(7, 0, 5))
	var list []impl.Line
	var want []impl.Span
	for box := range int64(40) {
		list = append(list, lnSet(39-box, 1))
		want = append(want, span(box, 39-box, 39-box))
	}
	wantSpans(t, append(list, lnTrap()), want...)
	for box := range int64(40) {
		list = append(list, lnStore(box, box, 0))
		want[box] = span(box, 39-box, 40+box)
	}
	wantSpans(t, append(list, lnTrap()), want...)
	// Without those in the middle.
	list = slices.DeleteFunc(list, func(l impl.Line) bool { return l.D+l.A >= 10 && l.D+l.A < 30 })
	kept := append(upTo(0, 9), upTo(30, 39)...)
	want = want[:0]
	for i, box := range kept {
		want = append(want, span(box, 19-int64(i), 20+int64(i)))
	}
	wantSpans(t, append(list, lnTrap()), want...)
}

// withOneBox is list with b as a.
func withOneBox(list []impl.Line, a, b int64) []impl.Line {
	others := copyOfLines(list)
	as := func(box *int64, told bool) {
		if told && *box == b {
			*box = a
		}
	}
	for i := range others {
		r, _ := plainLineRule(others[i])
		as(&others[i].D, r.d)
		as(&others[i].A, r.a)
		as(&others[i].B, r.b)
		for j := range others[i].List {
			as(&others[i].List[j], true)
		}
	}
	return others
}

// Two boxes whose Spans do not Meet, and which nobody wants ahead of all lines, may be one box: the lines come to the same.
func TestBoxesThatDoNotMeetMayBeOne(t *testing.T) {
	pairs, different := 0, 0
	for i, q := range manyRunnings(143, 2500) {
		list := q.codes[q.k]
		wanted, spans := impl.LiveIn(list, 0), impl.Spans(list)
		for _, a := range spans {
			for _, b := range spans {
				if a.Box == b.Box || impl.Meet(a, b) || slices.Contains(wanted, a.Box) || slices.Contains(wanted, b.Box) {
					continue
				}
				pairs++
				other := q.copied()
				other.codes[q.k] = withOneBox(list, a.Box, b.Box)
				if got, want := other.outcome(), q.outcome(); !sameOutcome(got, want) {
					t.Fatalf("%d: with %v and %v in one box %v comes to %v, not %v", i, a, b, q, got, want)
				}
				different += int(flag(!sameLines(other.codes[q.k], list)))
			}
		}
	}
	if pairs < 800 || different < pairs {
		t.Fatalf("%d pairs do not meet, %d of them are other lines: too few to tell", pairs, different)
	}
}
