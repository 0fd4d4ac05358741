package tests

import (
	"slices"
	"testing"

	"loop.example/g00363/impl"
)

// noMoveHomes are numbers that no Move has as a home, the spare shelf among them.
var noMoveHomes = []int64{-1, -2, -3, 5, 6, 99, 164, 165, 255, 256, 1 << 32, 1<<32 + 3, 1<<32 + 100, -1 << 32, leastInt, leastInt + 1, greatestInt, greatestInt - 1}

// Every home may be To and From, with every other.
func TestMovesOkOfEachHome(t *testing.T) {
	for _, to := range allHomes() {
		for _, from := range allHomes() {
			if list := []impl.Move{{To: to, From: from}}; !wantAsOrdered(t, list) {
				t.Fatalf("the rules by hand say no to %s", showMoves(list))
			}
		}
	}
	for _, edge := range []int64{0, 4, 100, 163} {
		if !impl.MovesOk([]impl.Move{{To: edge, From: 2}}) || !impl.MovesOk([]impl.Move{{To: 2, From: edge}}) || !impl.MovesOk([]impl.Move{{To: edge, From: edge}}) {
			t.Fatalf("%d is no home", edge)
		}
	}
}

// What is no home is none as To and as From, wherever the move stands.
func TestMovesOkOfWhatIsNoHome(t *testing.T) {
	right := moves("0<1 1<0 2<3 100<101 101<100 3<3 163<0 4<101")
	for _, home := range append(slices.Clone(noMoveHomes), manyNumbers()...) {
		for at := range right {
			for _, wrong := range []impl.Move{{To: home, From: right[at].From}, {To: right[at].To, From: home}, {To: home, From: home}} {
				list := slices.Clone(right)
				list[at] = wrong
				wantAsOrdered(t, list)
				wantAsOrdered(t, list[at:at+1])
			}
		}
	}
	for _, home := range noMoveHomes {
		wantNotMoved(t, []impl.Move{{To: home, From: 0}})
		wantNotMoved(t, []impl.Move{{To: 0, From: home}})
		wantNotMoved(t, []impl.Move{{To: home, From: home}})
	}
	// The spare shelf is told only in what is answered: that is no moves.
	wantNotMoved(t, impl.Ordered(moves("0<1 1<0")))
	wantNotMoved(t, moves("-2<1"))
}

// At most 8, whatever they are.
func TestMovesOkByHowMany(t *testing.T) {
	wantOrdered(t, "", "")
	if !impl.MovesOk([]impl.Move{}) || len(impl.Ordered([]impl.Move{})) != 0 {
		t.Fatal("none are no moves")
	}
	wantOrdered(t, "0<1", "0<1")
	var apart, alike []impl.Move
	for i := range int64(20) {
		apart = append(apart, impl.Move{To: 100 + i, From: 163 - i})
		alike = append(alike, impl.Move{To: 100 + i, From: 100 + i})
	}
	for _, list := range [][]impl.Move{apart, alike} {
		for many := range list {
			if got := impl.MovesOk(list[:many]); got != (many <= 8) || wantAsOrdered(t, list[:many]) != got {
				t.Fatalf("MovesOk of %d says %v", many, got)
			}
		}
	}
	// Nine are too many also where fewer are left, or where two of them are one.
	wantNotMoved(t, append(moves("0<1"), alike[:8]...))
	wantNotMoved(t, append(slices.Clone(apart[:8]), apart[0]))
}

// Tos are unlike, at any two places; Froms may be alike, and a To its own From.
func TestMovesOkOfHomesThatAreAlike(t *testing.T) {
	right := moves("0<1 1<0 2<3 100<101 101<100 3<3 163<0 4<101")
	for a := range right {
		for b := range right {
			if a == b {
				continue
			}
			two := slices.Clone(right)
			two[b].To = two[a].To
			wantNotMoved(t, two)
			two[b].From = two[a].From
			wantNotMoved(t, two)
			one := slices.Clone(right)
			one[b].From = one[a].From
			wantMoved(t, one, plainOrdered(one))
		}
		itself := slices.Clone(right)
		itself[a].From = itself[a].To
		wantMoved(t, itself, plainOrdered(itself))
	}
	wantNotMoved(t, moves("0<1 0<1"))
	wantNotMoved(t, moves("0<1 0<2"))
	wantNotMoved(t, moves("0<0 0<1"))
	wantNotMoved(t, moves("0<0 0<0"))
	wantNotMoved(t, moves("163<1 2<3 163<4"))
	wantOrdered(t, "0<1 2<1", "0<1 2<1")
	wantOrdered(t, "0<100 1<100 2<100 3<100 4<100 101<100 102<100 103<100", "0<100 1<100 2<100 3<100 4<100 101<100 102<100 103<100")
}

// What the Tos are then, in the order of the moves.
func TestAtOnceByHand(t *testing.T) {
	for _, c := range []struct {
		text string
		from []int64
	}{
		{"", nil},
		{"", []int64{}},
		{"0<1", []int64{9}},
		{"0<1 1<0", []int64{5, 6}},
		{"1<0 0<1", []int64{5, 6}},
		{"4<0 0<4 163<100 2<2", []int64{5, 6, 7, 8}},
		{"3<3", []int64{1}},
		{"0<1 2<1", []int64{7, 7}},
		{"0<1 1<2 2<3 3<4 4<100 100<101 101<102 102<163", []int64{8, 7, 6, 5, 4, 3, 2, 1}},
		{"163<0 100<1 4<2 3<3 2<4 1<100 0<163", []int64{leastInt, greatestInt, -1, 0, 1 << 32, -2, greatestWord}},
		// It is asked of nobody whether two that come from one home were told alike.
		{"0<1 2<1", []int64{7, 8}},
	} {
		if got := impl.AtOnce(moves(c.text), c.from); !slices.Equal(got, c.from) {
			t.Fatalf("AtOnce of %v tells %v, of %s", c.from, got, c.text)
		}
	}
}

// As many numbers as moves: with fewer or more, nothing.
func TestAtOnceOfOtherCounts(t *testing.T) {
	all := moves("0<1 1<0 2<3 100<101 101<100 3<3 163<0 4<101")
	for many := range len(all) + 1 {
		for count := range 20 {
			from := upTo(70, 69+int64(count))
			want := from
			if count != many {
				want = nil
			}
			if got := impl.AtOnce(all[:many], from); !slices.Equal(got, want) {
				t.Fatalf("AtOnce of %v tells %v, of %s", from, got, showMoves(all[:many]))
			}
		}
	}
	for _, none := range [][]impl.Move{moves("0<1 0<2"), moves("0<5"), moves("-2<0"), moves("0<-2"), moves("-1<0"), append(slices.Clone(all), moves("102<103")...)} {
		for count := range 12 {
			if got := impl.AtOnce(none, make([]int64, count)); len(got) != 0 {
				t.Fatalf("AtOnce of %d noughts tells %v, of %s", count, got, showMoves(none))
			}
		}
	}
}

// Any numbers may be at the homes, words or not.
func TestAtOnceOfAllNumbers(t *testing.T) {
	maker := newMoveMaker(191)
	numbers := manyNumbers()
	for range 5000 {
		list := maker.any()
		homes := map[int64]int64{}
		for _, home := range allHomes() {
			homes[home] = numbers[maker.next(len(numbers))]
		}
		from := fromOf(list, homes)
		if got := impl.AtOnce(list, from); !slices.Equal(got, from) {
			t.Fatalf("AtOnce of %v tells %v, of %s", from, got, showMoves(list))
		}
		for _, m := range impl.Ordered(list) {
			homes[m.To] = homes[m.From]
		}
		for i, m := range list {
			if homes[m.To] != from[i] {
				t.Fatalf("%d holds %d and not %d, of %s", m.To, homes[m.To], from[i], showMoves(list))
			}
		}
	}
}
