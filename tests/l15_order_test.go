package tests

import (
	"slices"
	"testing"

	"loop.example/g00363/impl"
)

// Those of which To and From are alike are left out, and hinder nobody.
func TestOrderedOfHomesThatAreAlike(t *testing.T) {
	wantOrdered(t, "2<2", "")
	wantOrdered(t, "0<0 1<1 2<2 3<3 4<4 100<100 131<131 163<163", "")
	wantOrdered(t, "0<1 1<1", "0<1")
	wantOrdered(t, "1<1 0<1", "0<1")
	wantOrdered(t, "1<1 0<1 163<163 100<0 2<2", "100<0 0<1")
	wantOrdered(t, "0<1 1<0 2<2", "-2<1 1<0 0<-2")
	wantOrdered(t, "2<2 0<1 3<3 1<0", "-2<1 1<0 0<-2")
	// Also where all others come from it.
	wantOrdered(t, "0<0 1<0 2<0 3<2", "1<0 3<2 2<0")
}

// Of a chain, the end goes first, wherever it stands.
func TestOrderedOfAChain(t *testing.T) {
	wantOrdered(t, "0<1 100<0", "100<0 0<1")
	wantOrdered(t, "100<0 0<1", "100<0 0<1")
	wantOrdered(t, "0<1 1<2 2<3", "0<1 1<2 2<3")
	wantOrdered(t, "2<3 1<2 0<1", "0<1 1<2 2<3")
	wantOrdered(t, "1<2 0<1 2<3", "0<1 1<2 2<3")
	wantOrdered(t, "163<4 4<3 3<2 2<1 1<0 0<100 100<101 101<102", "163<4 4<3 3<2 2<1 1<0 0<100 100<101 101<102")
	wantOrdered(t, "101<102 100<101 0<100 1<0 2<1 3<2 4<3 163<4", "163<4 4<3 3<2 2<1 1<0 0<100 100<101 101<102")
}

// Whoever is the first that may go goes, and then one looks from the first on again.
func TestOrderedOfTwoChains(t *testing.T) {
	wantOrdered(t, "0<1 1<2 100<101 101<102", "0<1 1<2 100<101 101<102")
	wantOrdered(t, "1<2 0<1 101<102 100<101", "0<1 1<2 100<101 101<102")
	wantOrdered(t, "1<2 101<102 100<101 0<1", "100<101 101<102 0<1 1<2")
	wantOrdered(t, "101<102 0<1 100<101 1<2", "0<1 100<101 101<102 1<2")
	wantOrdered(t, "3<4 1<2 2<3 0<1", "0<1 1<2 2<3 3<4")
	wantOrdered(t, "1<0 2<3 4<100", "1<0 2<3 4<100")
	wantOrdered(t, "4<100 2<3 1<0", "4<100 2<3 1<0")
	// Neither the least home nor the last move is first, but the first in the list.
	wantOrdered(t, "163<162 0<1 2<3 161<160", "163<162 0<1 2<3 161<160")
	wantOrdered(t, "2<3 163<2 0<1 1<4", "163<2 2<3 0<1 1<4")
}

// One home that many come from keeps what it has till all of them have it.
func TestOrderedOfOneFrom(t *testing.T) {
	wantOrdered(t, "0<1 1<2 3<1", "0<1 3<1 1<2")
	wantOrdered(t, "1<2 0<1 3<1", "0<1 3<1 1<2")
	wantOrdered(t, "1<2 0<1 3<1 4<1 100<1 101<1 163<1 102<2", "0<1 3<1 4<1 100<1 101<1 163<1 1<2 102<2")
	wantOrdered(t, "1<2 0<1 3<0 4<0 2<100", "3<0 4<0 0<1 1<2 2<100")
}

// A ring takes the spare shelf: what the first one comes from is put there.
func TestOrderedOfARing(t *testing.T) {
	wantOrdered(t, "0<1 1<0", "-2<1 1<0 0<-2")
	wantOrdered(t, "1<0 0<1", "-2<0 0<1 1<-2")
	wantOrdered(t, "163<100 100<163", "-2<100 100<163 163<-2")
	wantOrdered(t, "0<1 1<2 2<0", "-2<1 1<2 2<0 0<-2")
	wantOrdered(t, "0<1 2<0 1<2", "-2<1 1<2 2<0 0<-2")
	wantOrdered(t, "2<0 0<1 1<2", "-2<0 0<1 1<2 2<-2")
	wantOrdered(t, "0<1 1<2 2<3 3<4 4<100 100<101 101<163 163<0", "-2<1 1<2 2<3 3<4 4<100 100<101 101<163 163<0 0<-2")
	homes := []int64{4, 100, 0, 163, 2, 131, 1, 3}
	for size := 2; size <= 8; size++ {
		for first := range size {
			var list, want []impl.Move
			for i := range size {
				at := (first + i) % size
				list = append(list, impl.Move{To: homes[at], From: homes[(at+1)%size]})
			}
			want = append(append([]impl.Move{{To: -2, From: list[0].From}}, list[1:]...), impl.Move{To: list[0].To, From: -2})
			wantMoved(t, list, want)
			// In the other direction each one waits for the one ahead of it.
			slices.Reverse(list[1:])
			wantMoved(t, list, want)
		}
	}
}

// Each ring takes the spare shelf when the one ahead of it has what was there.
func TestOrderedOfMoreRings(t *testing.T) {
	wantOrdered(t, "0<1 1<0 2<3 3<2", "-2<1 1<0 0<-2 -2<3 3<2 2<-2")
	wantOrdered(t, "2<3 0<1 3<2 1<0", "-2<3 3<2 2<-2 -2<1 1<0 0<-2")
	wantOrdered(t, "0<1 2<3 1<0 3<2", "-2<1 1<0 0<-2 -2<3 3<2 2<-2")
	wantOrdered(t, "0<1 100<101 1<2 101<100 2<0", "-2<1 1<2 2<0 0<-2 -2<101 101<100 100<-2")
	wantOrdered(t, "0<1 1<2 2<3 3<0 4<100 100<101 101<163 163<4", "-2<1 1<2 2<3 3<0 0<-2 -2<100 100<101 101<163 163<4 4<-2")
	wantOrdered(t, "0<1 2<3 1<0 3<2 4<100 100<4 163<162 162<163", "-2<1 1<0 0<-2 -2<3 3<2 2<-2 -2<100 100<4 4<-2 -2<162 162<163 163<-2")
}

// What hangs on a ring and is no part of it goes first.
func TestOrderedOfARingWithChains(t *testing.T) {
	wantOrdered(t, "0<1 1<0 2<0", "2<0 -2<1 1<0 0<-2")
	wantOrdered(t, "0<1 1<0 2<1", "2<1 -2<1 1<0 0<-2")
	wantOrdered(t, "2<1 3<2 0<1 1<0", "3<2 2<1 -2<1 1<0 0<-2")
	wantOrdered(t, "0<1 1<2 2<0 3<0 4<3 100<1 101<2", "4<3 3<0 100<1 101<2 -2<1 1<2 2<0 0<-2")
	wantOrdered(t, "0<1 1<0 2<0 3<0 4<0 100<1 101<1 102<1", "2<0 3<0 4<0 100<1 101<1 102<1 -2<1 1<0 0<-2")
	// A chain of its own ahead of the ring, behind it, and between.
	wantOrdered(t, "3<4 0<1 2<3 1<0", "2<3 3<4 -2<1 1<0 0<-2")
	wantOrdered(t, "0<1 1<0 3<4 2<3", "2<3 3<4 -2<1 1<0 0<-2")
	// Two rings, and one home that is from each of them.
	wantOrdered(t, "0<1 1<0 2<3 3<2 100<0 101<3 102<101", "100<0 102<101 101<3 -2<1 1<0 0<-2 -2<3 3<2 2<-2")
}

// Whatever hangs on a ring, none is left when the spare shelf is taken whose From is the same: so it is put there for one alone.
func TestOrderedSparesForOneAlone(t *testing.T) {
	maker := newMoveMaker(192)
	spared := 0
	for range 5000 {
		list := maker.any()
		ordered := impl.Ordered(list)
		for i, m := range ordered {
			if m.To != -2 {
				continue
			}
			spared++
			uses := 0
			for _, o := range ordered[i+1:] {
				if o.To == -2 {
					break
				}
				uses += int(flag(o.From == -2))
			}
			if uses != 1 {
				t.Fatalf("what is on the spare shelf is taken %d times in %s, of %s", uses, showMoves(ordered), showMoves(list))
			}
		}
	}
	if spared < 2000 {
		t.Fatalf("%d are spared: too few to tell", spared)
	}
}

// The order of the list tells the order among those that may go, and nothing else does: other homes, other names.
func TestOrderedByPlaceAlone(t *testing.T) {
	maker := newMoveMaker(193)
	for range 3000 {
		list := maker.any()
		all := allHomes()
		others := maker.shuffled(all)
		named := func(given []impl.Move) []impl.Move {
			name := map[int64]int64{-2: -2}
			for i, home := range all {
				name[home] = others[i]
			}
			var other []impl.Move
			for _, m := range given {
				other = append(other, impl.Move{To: name[m.To], From: name[m.From]})
			}
			return other
		}
		if got, want := impl.Ordered(named(list)), named(impl.Ordered(list)); !slices.Equal(got, want) {
			t.Fatalf("Ordered is %s, not %s, of %s", showMoves(got), showMoves(want), showMoves(named(list)))
		}
	}
}

// What are no moves is not put in order, however near it is to it.
func TestOrderedOfWhatAreNoMoves(t *testing.T) {
	for _, text := range []string{"0<5", "5<0", "0<-1", "-1<0", "0<-2", "-2<0", "-2<-2", "99<100", "100<99", "164<0", "0<164", "0<1 0<2", "0<1 1<0 0<2", "0<0 0<0", "1<1 2<2 99<99", "0<1 1<0 2<-2", "-2<1 1<0 0<-2", "0<1 1<2 2<3 3<4 4<100 100<101 101<102 102<103 103<0", "0<0 1<1 2<2 3<3 4<4 100<100 101<101 102<102 103<103"} {
		wantNotMoved(t, moves(text))
	}
}
