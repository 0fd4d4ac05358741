package tests

import (
	"cmp"
	"slices"
	"testing"

	"loop.example/g00363/impl"
)

// aPlainHouse has who is on a shelf so far, by Box; whoever was looked at and is not there is in the cellar.
type aPlainHouse struct {
	spans   map[int64]impl.Span
	shelves map[int64]int64
}

// has are the ones that have this shelf so far and meet s.
func (h aPlainHouse) has(shelf int64, s impl.Span) []impl.Span {
	var list []impl.Span
	for box := range int64(40) {
		if own, is := h.shelves[box]; is && own == shelf && plainMeet(h.spans[box], s) {
			list = append(list, h.spans[box])
		}
	}
	return list
}

// add looks at one that no call crosses.
func (h aPlainHouse) add(s impl.Span) {
	all := []impl.Span{s}
	h.spans[s.Box] = s
	for shelf := range int64(5) {
		others := h.has(shelf, s)
		if len(others) == 0 {
			h.shelves[s.Box] = shelf
			return
		}
		all = append(all, others...)
	}
	last := slices.MaxFunc(all, func(a, b impl.Span) int { return cmp.Or(cmp.Compare(a.To, b.To), cmp.Compare(a.Box, b.Box)) })
	if last.Box != s.Box {
		h.shelves[s.Box] = h.shelves[last.Box]
		delete(h.shelves, last.Box)
	}
}

// plainHomes goes by the document's words, one Span after the other.
func plainHomes(spans []impl.Span) []int64 {
	h := aPlainHouse{map[int64]impl.Span{}, map[int64]int64{}}
	homes := slices.Repeat([]int64{-1}, 40)
	for from := range int64(300) {
		for box := range int64(40) {
			if s, is := spanOf(spans, box); is && s.From == from && !s.Cross {
				h.add(s)
			}
		}
	}
	place := int64(100)
	for box := range int64(40) {
		shelf, is := h.shelves[box]
		if _, wanted := spanOf(spans, box); is {
			homes[box] = shelf
		} else if wanted {
			homes[box] = place
			place++
		}
	}
	return homes
}

// plainHomesOk is the document's question, box by box.
func plainHomesOk(spans []impl.Span, homes []int64) bool {
	is := len(homes) == 40
	for _, home := range homes {
		is = is && (home == -1 || home >= 0 && home < 5 || home >= 100 && home < 164)
	}
	for box := int64(0); is && box < 40; box++ {
		s, spanned := spanOf(spans, box)
		if !spanned {
			continue
		}
		is = homes[box] != -1 && (!s.Cross || homes[box] >= 100)
		for other := range box {
			o, too := spanOf(spans, other)
			is = is && !(too && homes[other] == homes[box] && plainMeet(s, o))
		}
	}
	return is
}

func plainCellarSize(homes []int64) int64 {
	return int64(len(slices.DeleteFunc(slices.Clone(homes), func(home int64) bool { return home < 100 })))
}

// asHomes are the homes of the first boxes; all others have none.
func asHomes(first ...int64) []int64 {
	return append(slices.Clone(first), slices.Repeat([]int64{-1}, 40-len(first))...)
}

// homesBy are the homes of some boxes; all others have none.
func homesBy(some map[int64]int64) []int64 {
	homes := asHomes()
	for box, home := range some {
		homes[box] = home
	}
	return homes
}

// wantAsked asks HomesOk of right lines, and CellarSize.
func wantAsked(t *testing.T, list []impl.Line, spans []impl.Span, homes []int64) bool {
	t.Helper()
	want := plainHomesOk(spans, homes)
	if got := impl.HomesOk(list, homes); got != want {
		t.Fatalf("HomesOk of %v is %v, of %v, of%s", homes, got, spans, showLines(list))
	}
	if got := impl.CellarSize(homes); got != plainCellarSize(homes) {
		t.Fatalf("CellarSize of %v is %d", homes, got)
	}
	return want
}

// wantHoused asks P14 of right lines.
func wantHoused(t *testing.T, list []impl.Line, spans []impl.Span, want []int64) {
	t.Helper()
	homes := impl.Homes(list)
	if !slices.Equal(homes, want) {
		t.Fatalf("Homes are\n%v, not\n%v, of %v, of%s", homes, want, spans, showLines(list))
	}
	if !wantAsked(t, list, spans, homes) {
		t.Fatalf("%v are not as they should be, of %v, of%s", homes, spans, showLines(list))
	}
	crosses := int64(0)
	for _, s := range spans {
		crosses += flag(s.Cross)
	}
	size, pressure := impl.CellarSize(homes), impl.Pressure(list)
	if pressure <= 5 && size != crosses || pressure > 5 && size == 0 {
		t.Fatalf("%d are in the cellar, %d cross, Pressure is %d: %v, of%s", size, crosses, pressure, homes, showLines(list))
	}
}

// wantHomes holds the homes by hand against the plain ones, too.
func wantHomes(t *testing.T, list []impl.Line, want []int64) {
	t.Helper()
	f, is := plainFlow(list)
	if !is {
		t.Fatalf("the rules by hand say no to%s", showLines(list))
	}
	spans := plainSpans(list, f)
	if plain := plainHomes(spans); !slices.Equal(plain, want) {
		t.Fatalf("the plain homes are\n%v, not\n%v, of %v, of%s", plain, want, spans, showLines(list))
	}
	wantHoused(t, list, spans, want)
}

// someHomes are homes of other lists, right and wrong ones.
var someHomes = [][]int64{nil, {}, {0}, asHomes(), asHomes(0), asHomes(0, 1, 2), asHomes(0, 1, 2, 3, 4, 100, 101), asHomes()[:39], append(asHomes(), -1), slices.Repeat([]int64{100}, 40), slices.Repeat([]int64{0}, 40), upTo(100, 139), upTo(124, 163), upTo(0, 39), make([]int64, 41)}

// wantNoHomes asks of lists that are not right.
func wantNoHomes(t *testing.T, list []impl.Line) {
	t.Helper()
	if plainLinesOk(list) {
		t.Fatalf("the rules by hand say yes to%s", showLines(list))
	}
	if got := impl.Homes(list); len(got) != 0 {
		t.Fatalf("Homes are %v, of%s", got, showLines(list))
	}
	for _, homes := range someHomes {
		if impl.HomesOk(list, homes) {
			t.Fatalf("HomesOk says yes to %v, of%s", homes, showLines(list))
		}
	}
}

// wantAsHoused answers whether they are right lines.
func wantAsHoused(t *testing.T, list []impl.Line) bool {
	t.Helper()
	f, is := plainFlow(list)
	if is {
		spans := plainSpans(list, f)
		wantHoused(t, list, spans, plainHomes(spans))
	} else {
		wantNoHomes(t, list)
	}
	return is
}

// aHomeTally counts what the made lists have, to tell whether they are enough.
type aHomeTally struct {
	lists, easy, crossed, squeezed, again, all int
}

func (c *aHomeTally) add(list []impl.Line) {
	spans, homes := impl.Spans(list), impl.Homes(list)
	pressure, size, crosses := impl.Pressure(list), impl.CellarSize(homes), 0
	shelves := map[int64]int{}
	for _, s := range spans {
		crosses += int(flag(s.Cross))
		shelves[homes[s.Box]]++
	}
	c.lists++
	c.easy += int(flag(pressure <= 5 && crosses == 0 && len(spans) > 5))
	c.crossed += int(flag(pressure <= 5 && crosses > 0))
	c.squeezed += int(flag(int(size) > crosses))
	c.again += int(flag(shelves[0] > 1 || shelves[4] > 1))
	c.all += int(flag(shelves[4] > 0))
}

// sets are lines that set one box each: a box has the lines from the first one that sets it to the last, and none crosses.
func sets(boxes ...int64) []impl.Line {
	var list []impl.Line
	for i, box := range boxes {
		list = append(list, lnSet(box, int64(i)))
	}
	return append(list, lnTrap())
}

// squeezing are so many lines that set and use boxes below some number, calls among them now and then.
func (m *aLineMaker) squeezing(rows int) []impl.Line {
	m.below = 3 + m.next(15)
	calls := m.next(3) == 0
	var list []impl.Line
	for range rows - 1 {
		l := lnSet(m.box(), 1)
		switch m.next(6) {
		case 0:
			l = lnStore(m.box(), m.box(), 0)
		case 1:
			l = lnMove(m.box(), m.box())
		case 2:
			l = m.squeezed(calls)
		}
		list = append(list, l)
	}
	return append(list, lnTrap())
}

// squeezed is a line that begins or ends more at once.
func (m *aLineMaker) squeezed(calls bool) impl.Line {
	if calls && m.next(3) == 0 {
		return lnCall(m.box(), 0, m.box(), m.box(), m.box())
	}
	if m.next(2) == 0 {
		return lnTrap()
	}
	return lnBin(m.box(), m.box(), m.box(), 1)
}

// P14 of many made lists, as the plain homes have it.
func TestHomesOfManyLines(t *testing.T) {
	maker := newLineMaker(160)
	var c aHomeTally
	for i := range 3000 {
		rows := 1 + i%40
		list := maker.squeezing(rows)
		switch i % 4 {
		case 0:
			list = maker.lines(rows)
		case 1:
			list = maker.flowing(rows)
		}
		if !wantAsHoused(t, list) {
			t.Fatalf("the rules by hand say no to%s", showLines(list))
		}
		c.add(list)
	}
	if c.easy < 80 || c.crossed < 150 || c.squeezed < 1000 || c.again < 800 || c.all < 1500 {
		t.Fatalf("%+v: too few to tell", c)
	}
}

// P14 of long lists, up to the limit.
func TestHomesOfLongLists(t *testing.T) {
	maker := newLineMaker(161)
	for _, rows := range []int{100, 200, 255, 256, 257, 298, 299, 300, 300} {
		for _, list := range [][]impl.Line{maker.lines(rows), maker.flowing(rows), maker.squeezing(rows)} {
			if !wantAsHoused(t, list) {
				t.Fatalf("the rules by hand say no to%s", showLines(list))
			}
		}
	}
}

// P14 of what Lowered made.
func TestHomesOfWhatIsLowered(t *testing.T) {
	var c aHomeTally
	for _, list := range loweredLists(t, 162, 600) {
		if !wantAsHoused(t, list) {
			t.Fatalf("the rules by hand say no to%s", showLines(list))
		}
		c.add(list)
	}
	if c.lists < 1200 || c.easy < 100 || c.crossed < 20 || c.squeezed < 30 || c.again < 100 || c.all < 100 {
		t.Fatalf("%+v: too few to tell", c)
	}
}

// P14 of boxes that are set in any order: who begins and who ends when is as it comes.
func TestHomesOfManySets(t *testing.T) {
	maker := newBodyMaker(163)
	squeezed := map[int64]int{}
	for i := range 6000 {
		many := 2 + i%15
		var order []int64
		for range 2 * many {
			order = append(order, int64(maker.next(many)))
		}
		list := sets(order...)
		if !wantAsHoused(t, list) {
			t.Fatalf("the rules by hand say no to%s", showLines(list))
		}
		squeezed[impl.CellarSize(impl.Homes(list))]++
	}
	for size := range int64(4) {
		if squeezed[size] < 300 {
			t.Fatalf("%v: too few to tell", squeezed)
		}
	}
}

// All short lists of some lines, right and wrong, are held against the plain homes.
func TestHomesOfAllShortLists(t *testing.T) {
	some := []impl.Line{lnSet(1, 9), lnMove(2, 1), lnMove(1, 2), lnBin(0, 1, 39, 12), lnJump(0), lnJump(1), lnJump(2), lnIf(1, 0), lnIf(39, 2), lnCall(1, 3, 2, 0, 2), lnCall(2, 0, 2), lnCall(5, 0, 6, 7, 8), lnStore(1, 0, 8), lnGive(0), lnGive(2), lnTrap(), lnGive(40)}
	right := 0
	for _, a := range some {
		right += int(flag(wantAsHoused(t, []impl.Line{a})))
		for _, b := range some {
			right += int(flag(wantAsHoused(t, []impl.Line{a, b})))
			for _, c := range some {
				right += int(flag(wantAsHoused(t, []impl.Line{a, b, c})))
			}
		}
	}
	if right < 1000 || right > 3000 {
		t.Fatalf("%d are right: too few or too many to tell", right)
	}
}
