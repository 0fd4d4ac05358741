package tests

import (
	"slices"
	"testing"

	"loop.example/g00363/impl"
)

// aMovingIn turns lines over boxes into lines over homes: box 3 and on for the shelves, box 8 and on for the cellar. In the first three come the arguments, which are brought to their homes ahead of all.
type aMovingIn struct {
	homes []int64
	lines []impl.Line
	are   bool
}

// home is the box that stands for the home of this one. Who has none, or one too far down, ends all.
func (m *aMovingIn) home(box int64) int64 {
	home := m.homes[box]
	if home >= 100 {
		home -= 95
	}
	if home < 0 || home+3 > 39 {
		m.are = false
		return 0
	}
	return home + 3
}

// bring puts what is wanted ahead of all lines where it lives.
func (m *aMovingIn) bring(wanted []int64) {
	for _, box := range wanted {
		l := lnSet(m.home(box), 0)
		if box < 3 {
			l = lnMove(m.home(box), box)
		}
		m.lines = append(m.lines, l)
	}
}

// put has the line in homes; behind a call, each shelf has another word, but the one that it sets.
func (m *aMovingIn) put(l impl.Line) {
	r, _ := plainLineRule(l)
	for i, box := range []*int64{&l.D, &l.A, &l.B} {
		if r.told()[i] {
			*box = m.home(*box)
		}
	}
	l.List = slices.Clone(l.List)
	for i, box := range l.List {
		l.List[i] = m.home(box)
	}
	m.lines = append(m.lines, l)
	for shelf := int64(3); l.Kind == impl.LnCall && shelf < 8; shelf++ {
		if shelf != l.D {
			m.lines = append(m.lines, lnSet(shelf, 305419896+shelf))
		}
	}
}

// inHomes is false where there would be too many lines or boxes.
func inHomes(list []impl.Line, homes []int64) ([]impl.Line, bool) {
	m := &aMovingIn{homes: homes, are: true}
	m.bring(impl.LiveIn(list, 0))
	var places []int64
	for _, l := range list {
		places = append(places, int64(len(m.lines)))
		m.put(l)
	}
	for i, l := range m.lines {
		if l.Kind == impl.LnJump || l.Kind == impl.LnIf {
			m.lines[i].N = places[l.N]
		}
	}
	return m.lines, m.are && len(m.lines) <= 300
}

// housed has all its codes in these homes.
func (q aRunning) housed(homes func(list []impl.Line) []int64) (aRunning, bool) {
	other := q.copied()
	for k, list := range q.codes {
		lines, is := inHomes(list, homes(list))
		if !is {
			return q, false
		}
		other.codes[k] = lines
	}
	return other.fuelled(maxTicks), true
}

// shelfForAll is Homes, but of those who cross, and of those for whom there is no shelf, each has some shelf.
func shelfForAll(list []impl.Line) []int64 {
	homes := impl.Homes(list)
	for box, home := range homes {
		if home >= 100 {
			homes[box] = home % 5
		}
	}
	return homes
}

// rightPlaces is another right answer: each in the cellar.
func rightPlaces(list []impl.Line) []int64 {
	homes := asHomes()
	for i, s := range impl.Spans(list) {
		homes[s.Box] = 100 + int64(i)
	}
	return homes
}

// wantSameHoused runs lines over boxes and over homes, where they end: it answers whether they were run, and whether they come to something else where all are on shelves.
func wantSameHoused(t *testing.T, q aRunning) (bool, bool) {
	t.Helper()
	want := q.fuelled(3000).outcome()
	if want.Code == impl.OcFuel || want.Code == impl.OcBad {
		return false, false
	}
	for _, homes := range []func([]impl.Line) []int64{impl.Homes, rightPlaces} {
		other, is := q.housed(homes)
		if !is {
			return false, false
		}
		for _, list := range q.codes {
			if !impl.HomesOk(list, homes(list)) {
				t.Fatalf("HomesOk says no to %v, of%s", homes(list), showLines(list))
			}
		}
		if got := other.outcome(); !sameOutcome(got, want) {
			t.Fatalf("%v\ncomes to %v, and in homes\n%v\nto %v", q, want, other, got)
		}
	}
	other, is := q.housed(shelfForAll)
	return true, is && !sameOutcome(other.outcome(), want)
}

// What boxes hold, homes hold: the lines come to the same, though calls change all shelves.
func TestLinesInHomesComeToTheSame(t *testing.T) {
	runs, different := 0, 0
	for _, q := range manyRunnings(170, 4000) {
		ran, other := wantSameHoused(t, q)
		runs += int(flag(ran))
		different += int(flag(other))
	}
	if runs < 2000 || different < 100 {
		t.Fatalf("%d are run, %d come to something else on shelves alone: too few to tell", runs, different)
	}
}

// So do the lines that Lowered made.
func TestWhatIsLoweredInHomesComesToTheSame(t *testing.T) {
	runs, rounds, different := 0, 0, 0
	for _, q := range manyMeanings(171, 800) {
		r, is := q.lowered()
		if !is {
			t.Fatalf("%v is not lowered", q)
		}
		ran, other := wantSameHoused(t, r)
		runs += int(flag(ran))
		different += int(flag(other))
	}
	for _, m := range loopingModules() {
		for _, a := range []int64{1, 2, 5, 9} {
			r, _ := aMeaning{m, 0, []int64{a, 3}, 3000}.lowered()
			ran, _ := wantSameHoused(t, r)
			rounds += int(flag(ran))
		}
	}
	if runs < 1200 || rounds < 40 || different < 20 {
		t.Fatalf("%d are run, %d with loops, %d come to something else on shelves alone: too few to tell", runs, rounds, different)
	}
}
