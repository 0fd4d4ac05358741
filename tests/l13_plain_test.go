package tests

import (
	"slices"
	"testing"

	"loop.example/g00363/impl"
)

// plainSpans asks of each box and each line whether it is wanted ahead of it or behind it, or is what it sets.
func plainSpans(list []impl.Line, f aFlow) []impl.Span {
	var spans []impl.Span
	for box := range int64(40) {
		var lines []int64
		cross := false
		for at, l := range list {
			behind, sets := slices.Contains(f.behind[at], box), plainSets(l) == box
			if slices.Contains(f.ahead[at], box) || behind || sets {
				lines = append(lines, int64(at))
			}
			cross = cross || l.Kind == 7 && behind && !sets
		}
		if len(lines) > 0 {
			spans = append(spans, impl.Span{Box: box, From: lines[0], To: lines[len(lines)-1], Cross: cross})
		}
	}
	return spans
}

// plainCounts are how many of them have each of so many lines.
func plainCounts(spans []impl.Span, rows int) []int64 {
	counts := make([]int64, rows)
	for at := range counts {
		for _, s := range spans {
			counts[at] += flag(s.From <= int64(at) && int64(at) <= s.To)
		}
	}
	return counts
}

// wantPressure asks for the greatest count of all lines.
func wantPressure(t *testing.T, list []impl.Line, spans []impl.Span) {
	t.Helper()
	want := int64(0)
	for _, count := range plainCounts(spans, len(list)) {
		want = max(want, count)
	}
	if got := impl.Pressure(list); got != want {
		t.Fatalf("Pressure is %d, not %d, of %v, of%s", got, want, spans, showLines(list))
	}
}

func wantSpans(t *testing.T, list []impl.Line, want ...impl.Span) {
	t.Helper()
	if got := impl.Spans(list); !slices.Equal(got, want) {
		t.Fatalf("Spans are\n%v, not\n%v, of%s", got, want, showLines(list))
	}
	wantPressure(t, list, want)
}

// wantNoSpans asks of lists that are not right.
func wantNoSpans(t *testing.T, list []impl.Line) {
	t.Helper()
	if plainLinesOk(list) {
		t.Fatalf("the rules by hand say yes to%s", showLines(list))
	}
	wantSpans(t, list)
}

// wantAsSpanned answers whether they are right lines.
func wantAsSpanned(t *testing.T, list []impl.Line) bool {
	t.Helper()
	f, is := plainFlow(list)
	if is {
		wantSpans(t, list, plainSpans(list, f)...)
	} else {
		wantNoSpans(t, list)
	}
	return is
}

// spanOf is false where box has none.
func spanOf(spans []impl.Span, box int64) (impl.Span, bool) {
	i := slices.IndexFunc(spans, func(s impl.Span) bool { return s.Box == box })
	if i < 0 {
		return impl.Span{}, false
	}
	return spans[i], true
}

// wantP13 holds Spans against what LiveIn, LiveOut and Sets answer of every line: each box is in its Span there, and comes to both ends of it.
func wantP13(t *testing.T, list []impl.Line) {
	t.Helper()
	spans := impl.Spans(list)
	began, ended, crosses := map[int64]bool{}, map[int64]bool{}, map[int64]bool{}
	for i, l := range list {
		at, sets := int64(i), impl.Sets(l)
		behind := impl.LiveOut(list, at)
		boxes := joinedRising(impl.LiveIn(list, at), behind)
		if sets != -1 {
			boxes = joinedRising(boxes, []int64{sets})
		}
		for _, box := range boxes {
			s, is := spanOf(spans, box)
			if !is || at < s.From || at > s.To {
				t.Fatalf("box %d is not in its Span at %d: %v, of%s", box, at, spans, showLines(list))
			}
			began[box], ended[box] = began[box] || at == s.From, ended[box] || at == s.To
			crosses[box] = crosses[box] || l.Kind == impl.LnCall && box != sets && slices.Contains(behind, box)
		}
	}
	for i, s := range spans {
		if !began[s.Box] || !ended[s.Box] || crosses[s.Box] != s.Cross {
			t.Fatalf("%v: From is %v, To is %v, Cross should be %v, of%s", s, began[s.Box], ended[s.Box], crosses[s.Box], showLines(list))
		}
		if i > 0 && spans[i-1].Box >= s.Box {
			t.Fatalf("%v do not rise by Box, of%s", spans, showLines(list))
		}
	}
	if len(spans) != len(began) {
		t.Fatalf("%v are of others than the %d boxes with lines, of%s", spans, len(began), showLines(list))
	}
}

// aSpanTally counts what the made lists have, to tell whether they are enough.
type aSpanTally struct {
	spans, crosses, points, rounds, pressed int
}

func (c *aSpanTally) add(list []impl.Line) {
	spans := impl.Spans(list)
	c.spans += len(spans)
	for _, s := range spans {
		c.crosses += int(flag(s.Cross))
		c.points += int(flag(s.From == s.To))
		c.rounds += int(flag(s.From == 0 && s.To == int64(len(list))-1))
	}
	if counts := plainCounts(spans, len(list)); counts[0] < slices.Max(counts) && counts[len(list)-1] < slices.Max(counts) {
		c.pressed++
	}
}

// P13 of many made lists, box by box as the plain Spans have it.
func TestSpansOfManyLines(t *testing.T) {
	maker := newLineMaker(140)
	var c aSpanTally
	for i := range 900 {
		rows := 1 + i%40
		list := maker.lines(rows)
		if i%2 == 0 {
			list = maker.flowing(rows)
		}
		if !wantAsSpanned(t, list) {
			t.Fatalf("the rules by hand say no to%s", showLines(list))
		}
		wantP13(t, list)
		c.add(list)
	}
	if c.spans < 8000 || c.crosses < 1000 || c.points < 300 || c.rounds < 300 || c.pressed < 300 {
		t.Fatalf("%+v: too few to tell", c)
	}
}

// P13 of long lists, up to the limit.
func TestSpansOfLongLists(t *testing.T) {
	maker := newLineMaker(141)
	for _, rows := range []int{100, 200, 255, 256, 257, 298, 299, 300, 300} {
		for _, list := range [][]impl.Line{maker.lines(rows), maker.flowing(rows)} {
			if !wantAsSpanned(t, list) {
				t.Fatalf("the rules by hand say no to%s", showLines(list))
			}
			wantP13(t, list)
		}
	}
}

// loweredLists are what Lowered made of modules with loops and of made ones.
func loweredLists(t *testing.T, seed uint64, count int) [][]impl.Line {
	t.Helper()
	maker := newPileMaker(seed)
	modules := loopingModules()
	for range count {
		m, _ := maker.madeModule()
		modules = append(modules, m)
	}
	var lists [][]impl.Line
	for _, m := range modules {
		all, is := impl.AllLowered(m)
		if !is {
			t.Fatalf("%s is not lowered", showPiles(m))
		}
		lists = append(lists, all...)
	}
	return lists
}

// P13 of what Lowered made.
func TestSpansOfWhatIsLowered(t *testing.T) {
	var c aSpanTally
	for _, list := range loweredLists(t, 142, 250) {
		if !wantAsSpanned(t, list) {
			t.Fatalf("the rules by hand say no to%s", showLines(list))
		}
		wantP13(t, list)
		c.add(list)
	}
	if c.spans < 1500 || c.crosses < 30 || c.points < 100 || c.pressed < 100 {
		t.Fatalf("%+v: too few to tell", c)
	}
}

// All short lists of some lines, right and wrong, are held against the plain Spans.
func TestSpansOfAllShortLists(t *testing.T) {
	some := []impl.Line{lnSet(1, 9), lnMove(2, 1), lnMove(1, 2), lnBin(0, 1, 39, 12), lnJump(0), lnJump(1), lnJump(2), lnIf(1, 0), lnIf(39, 2), lnCall(1, 3, 2, 0, 2), lnCall(2, 0, 2), lnZero(2, 2), lnStore(1, 0, 8), lnGive(0), lnGive(2), lnTrap(), lnGive(40)}
	right := 0
	for _, a := range some {
		right += int(flag(wantAsSpanned(t, []impl.Line{a})))
		for _, b := range some {
			right += int(flag(wantAsSpanned(t, []impl.Line{a, b})))
			for _, c := range some {
				right += int(flag(wantAsSpanned(t, []impl.Line{a, b, c})))
			}
		}
	}
	if right < 1000 || right > 3000 {
		t.Fatalf("%d are right: too few or too many to tell", right)
	}
}
