package tests

import (
	"fmt"
	"slices"
	"strconv"
	"strings"
	"testing"

	"loop.example/g00363/impl"
)

// moves reads "0<1 100<0": 0 is what 1 was, and 100 is what 0 was.
func moves(text string) []impl.Move {
	var list []impl.Move
	for _, told := range strings.Fields(text) {
		to, from, _ := strings.Cut(told, "<")
		list = append(list, impl.Move{To: homeOf(to), From: homeOf(from)})
	}
	return list
}

func homeOf(text string) int64 {
	home, err := strconv.ParseInt(text, 10, 64)
	if err != nil {
		panic(err)
	}
	return home
}

func showMoves(list []impl.Move) string {
	var told []string
	for _, m := range list {
		told = append(told, fmt.Sprintf("%d<%d", m.To, m.From))
	}
	return "[" + strings.Join(told, " ") + "]"
}

func plainMovesOk(list []impl.Move) bool {
	tos := map[int64]int{}
	is := len(list) < 9
	for _, m := range list {
		tos[m.To]++
		for _, home := range []int64{m.To, m.From} {
			is = is && (home == 0 || home == 1 || home == 2 || home == 3 || home == 4 || home > 99 && home < 164)
		}
	}
	return is && len(tos) == len(list)
}

// plainOrdered goes by the document's words, of moves that are left.
func plainOrdered(left []impl.Move) []impl.Move {
	for i, m := range left {
		others := slices.Delete(slices.Clone(left), i, i+1)
		if m.To == m.From {
			return plainOrdered(others)
		}
	}
	for i, m := range left {
		others := slices.Delete(slices.Clone(left), i, i+1)
		if !slices.ContainsFunc(others, func(o impl.Move) bool { return o.From == m.To }) {
			return append([]impl.Move{m}, plainOrdered(others)...)
		}
	}
	if len(left) == 0 {
		return nil
	}
	spared := slices.Clone(left)
	for i, m := range left {
		if m.From == left[0].From {
			spared[i].From = -2
		}
	}
	return append([]impl.Move{{To: -2, From: left[0].From}}, plainOrdered(spared)...)
}

// ringsOf counts the ways from a To by its From, and by what is there, that come back, each once; a move whose To is its From is none.
func ringsOf(list []impl.Move) int {
	rings := 0
	for _, m := range list {
		home, least, steps := m.From, m.To, 1
		for home != m.To && steps <= len(list) {
			at := slices.IndexFunc(list, func(o impl.Move) bool { return o.To == home })
			if at < 0 {
				break
			}
			home, least, steps = list[at].From, min(least, home), steps+1
		}
		if home == m.To && least == m.To && steps > 1 {
			rings++
		}
	}
	return rings
}

// held are all homes and the spare shelf, each with a number of its own.
func held() map[int64]int64 {
	all := map[int64]int64{-2: 77777}
	for _, home := range allHomes() {
		all[home] = 1<<40 + 13*home
	}
	return all
}

// fromOf tells what each From was.
func fromOf(list []impl.Move, homes map[int64]int64) []int64 {
	var from []int64
	for _, m := range list {
		from = append(from, homes[m.From])
	}
	return from
}

// wantAsIfAtOnce is P15: done one after the other, these come to what list comes to at once.
func wantAsIfAtOnce(t *testing.T, list []impl.Move, ordered []impl.Move) {
	t.Helper()
	homes := held()
	want := held()
	at := impl.AtOnce(list, fromOf(list, homes))
	if len(at) != len(list) {
		t.Fatalf("AtOnce tells %v, of %s", at, showMoves(list))
	}
	for i, m := range list {
		want[m.To] = at[i]
		if at[i] != homes[m.From] {
			t.Fatalf("AtOnce tells %v, of %s", at, showMoves(list))
		}
	}
	for _, m := range ordered {
		if _, is := homes[m.From]; !is || m.To == m.From {
			t.Fatalf("%d from %d in %s, of %s", m.To, m.From, showMoves(ordered), showMoves(list))
		}
		homes[m.To] = homes[m.From]
	}
	delete(homes, -2)
	for home, is := range homes {
		if want[home] != is {
			t.Fatalf("%d holds %d and not %d by %s, of %s", home, is, want[home], showMoves(ordered), showMoves(list))
		}
	}
}

// wantOnceEach asks for each move once, but those whose To is its From, and for the spare shelf once for each ring.
func wantOnceEach(t *testing.T, list []impl.Move, ordered []impl.Move) {
	t.Helper()
	tos := map[int64]int{}
	for _, m := range ordered {
		tos[m.To]++
	}
	if tos[-2] != ringsOf(list) {
		t.Fatalf("the spare shelf is taken %d times and not %d in %s, of %s", tos[-2], ringsOf(list), showMoves(ordered), showMoves(list))
	}
	for _, m := range list {
		if tos[m.To] != int(flag(m.To != m.From)) {
			t.Fatalf("%d is moved %d times in %s, of %s", m.To, tos[m.To], showMoves(ordered), showMoves(list))
		}
	}
}

// wantMoved asks all three of right moves.
func wantMoved(t *testing.T, list []impl.Move, want []impl.Move) {
	t.Helper()
	if !impl.MovesOk(list) {
		t.Fatalf("MovesOk says no to %s", showMoves(list))
	}
	ordered := impl.Ordered(list)
	if !slices.Equal(ordered, want) {
		t.Fatalf("Ordered is %s, not %s, of %s", showMoves(ordered), showMoves(want), showMoves(list))
	}
	wantAsIfAtOnce(t, list, ordered)
	wantOnceEach(t, list, ordered)
}

// wantOrdered holds what is written by hand against the plain order, too.
func wantOrdered(t *testing.T, text string, want string) {
	t.Helper()
	list := moves(text)
	if plain := plainOrdered(list); !plainMovesOk(list) || !slices.Equal(plain, moves(want)) {
		t.Fatalf("the plain order is %s, not %s, of %s", showMoves(plain), want, text)
	}
	wantMoved(t, list, moves(want))
}

// wantNotMoved asks all three of what are no moves.
func wantNotMoved(t *testing.T, list []impl.Move) {
	t.Helper()
	if plainMovesOk(list) {
		t.Fatalf("the rules by hand say yes to %s", showMoves(list))
	}
	if impl.MovesOk(list) {
		t.Fatalf("MovesOk says yes to %s", showMoves(list))
	}
	if got := impl.Ordered(list); len(got) != 0 {
		t.Fatalf("Ordered is %s, of %s", showMoves(got), showMoves(list))
	}
	for _, from := range [][]int64{nil, {1}, make([]int64, len(list)), make([]int64, 8)} {
		if got := impl.AtOnce(list, from); len(got) != 0 {
			t.Fatalf("AtOnce of %v tells %v, of %s", from, got, showMoves(list))
		}
	}
}

// wantAsOrdered answers whether they are moves.
func wantAsOrdered(t *testing.T, list []impl.Move) bool {
	t.Helper()
	is := plainMovesOk(list)
	if is {
		wantMoved(t, list, plainOrdered(list))
	} else {
		wantNotMoved(t, list)
	}
	return is
}

// aMoveMaker makes moves of a fixed sequence.
type aMoveMaker struct{ *aBodyMaker }

func newMoveMaker(seed uint64) aMoveMaker { return aMoveMaker{newBodyMaker(seed)} }

// moves are so many right ones among these homes, of which there must be enough; the fewer there are, the more rings there are.
func (m aMoveMaker) moves(many int, homes []int64) []impl.Move {
	tos := m.shuffled(homes)
	froms := tos[:min(len(tos), many+m.next(3))]
	var list []impl.Move
	for _, to := range tos[:many] {
		list = append(list, impl.Move{To: to, From: froms[m.next(len(froms))]})
	}
	return list
}

// turned are so many moves whose Froms are their Tos in another order: rings, and some whose To is its From.
func (m aMoveMaker) turned(many int, homes []int64) []impl.Move {
	tos := m.shuffled(homes)[:many]
	var list []impl.Move
	for i, from := range m.shuffled(tos) {
		list = append(list, impl.Move{To: tos[i], From: from})
	}
	return list
}

// any are right moves of any sort: few homes, all of them, or rings that have another From now and then.
func (m aMoveMaker) any() []impl.Move {
	all := allHomes()
	few := m.shuffled(all)[:8]
	many := m.next(9)
	switch m.next(4) {
	case 0:
		return m.moves(many, all)
	case 1:
		return m.moves(many, few)
	case 2:
		return m.turned(many, all)
	}
	list := m.turned(many, few)
	if many > 0 {
		list[m.next(many)].From = few[m.next(8)]
	}
	return list
}

// aMoveTally counts what the made moves have, to tell whether they are enough.
type aMoveTally struct {
	lists, alike, shared, noRing, oneRing, twoRings, more, branched int
}

func (c *aMoveTally) add(list []impl.Move) {
	froms := map[int64]int{}
	alike, shared := false, false
	for _, m := range list {
		froms[m.From]++
		alike = alike || m.To == m.From
		shared = shared || froms[m.From] > 1
	}
	rings := ringsOf(list)
	c.lists++
	c.alike += int(flag(alike))
	c.shared += int(flag(shared))
	c.noRing += int(flag(rings == 0))
	c.oneRing += int(flag(rings == 1))
	c.twoRings += int(flag(rings == 2))
	c.more += int(flag(rings > 2))
	c.branched += int(flag(rings > 0 && shared))
}

// P15 of many made moves.
func TestOrderedOfManyMoves(t *testing.T) {
	maker := newMoveMaker(190)
	var c aMoveTally
	for range 20000 {
		list := maker.any()
		if !wantAsOrdered(t, list) {
			t.Fatalf("the rules by hand say no to %s", showMoves(list))
		}
		c.add(list)
	}
	if c.alike < 3000 || c.shared < 3000 || c.noRing < 3000 || c.oneRing < 3000 || c.twoRings < 1500 || c.more < 100 || c.branched < 1000 {
		t.Fatalf("%+v: too few to tell", c)
	}
}

// All lists of up to four moves among four homes.
func TestOrderedOfAllShortLists(t *testing.T) {
	var all []impl.Move
	for _, to := range []int64{0, 4, 100, 163} {
		for _, from := range []int64{0, 4, 100, 163} {
			all = append(all, impl.Move{To: to, From: from})
		}
	}
	right := 0
	lists := [][]impl.Move{nil}
	for range 4 {
		var longer [][]impl.Move
		for _, list := range lists {
			for _, m := range all {
				longer = append(longer, append(slices.Clone(list), m))
			}
		}
		for _, list := range longer {
			right += int(flag(wantAsOrdered(t, list)))
		}
		lists = longer
	}
	// One of four Tos after the other, none twice, each with one of four Froms.
	if right != 4*4+4*3*16+4*3*2*64+4*3*2*256 {
		t.Fatalf("%d are right", right)
	}
}

// All ways in which five and six homes can be told, each from any of them.
func TestOrderedOfAllFroms(t *testing.T) {
	for _, tos := range [][]int64{upTo(0, 4), {3, 1, 0, 4, 2}, {3, 100, 0, 131, 163, 4}} {
		count := 1
		for range tos {
			count *= len(tos)
		}
		for way := range count {
			var list []impl.Move
			for _, to := range tos {
				list = append(list, impl.Move{To: to, From: tos[way%len(tos)]})
				way /= len(tos)
			}
			if !wantAsOrdered(t, list) {
				t.Fatalf("the rules by hand say no to %s", showMoves(list))
			}
		}
	}
}

// eachOrder tells all orders of the numbers.
func eachOrder(list []int64, tell func([]int64)) {
	var from func(at int)
	from = func(at int) {
		if at == len(list) {
			tell(list)
		}
		for i := at; i < len(list); i++ {
			list[at], list[i] = list[i], list[at]
			from(at + 1)
			list[at], list[i] = list[i], list[at]
		}
	}
	from(0)
}

// Eight homes that change places, in all ways: up to four rings.
func TestOrderedOfAllTurns(t *testing.T) {
	tos := []int64{2, 150, 0, 1, 163, 4, 3, 100}
	var c aMoveTally
	eachOrder(slices.Clone(tos), func(froms []int64) {
		var list []impl.Move
		for i, from := range froms {
			list = append(list, impl.Move{To: tos[i], From: from})
		}
		wantMoved(t, list, plainOrdered(list))
		c.add(list)
	})
	if c.lists != 40320 || c.noRing != 1 || c.more < 100 {
		t.Fatalf("%+v are not all turns", c)
	}
}
