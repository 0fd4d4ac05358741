package tests

import (
	"slices"
	"testing"

	"loop.example/g00363/impl"
)

// spoilMoves changes all that an answer has, and the room behind it.
func spoilMoves(list []impl.Move) {
	whole := list[:cap(list)]
	for i := range whole {
		whole[i] = impl.Move{To: -77, From: -77}
	}
}

// movesInRoom is a copy of list with others behind it; and all of it.
func movesInRoom(list []impl.Move, behind ...impl.Move) ([]impl.Move, []impl.Move) {
	whole := append(slices.Clone(list), behind...)
	return whole[:len(list)], whole
}

// someMoves are made moves, some of which are not right.
func someMoves(seed uint64, count int) [][]impl.Move {
	maker := newMoveMaker(seed)
	lists := [][]impl.Move{nil, {}, moves("0<1"), moves("0<0"), moves("0<1 1<0"), moves("0<1 0<2"), moves("0<5")}
	for i := range count {
		list := maker.any()
		if i%5 == 0 && len(list) > 0 {
			list[maker.next(len(list))].From = noMoveHomes[maker.next(len(noMoveHomes))]
		}
		if i%7 == 0 {
			list = append(list, impl.Move{To: int64(maker.next(5)), From: 100})
		}
		lists = append(lists, list)
	}
	return lists
}

// P21: what Ordered answers is new memory each time, with the room behind it.
func TestOrderedIsNewMemory(t *testing.T) {
	for _, list := range someMoves(194, 2000) {
		kept := slices.Clone(list)
		first, second := impl.Ordered(list), impl.Ordered(list)
		want := slices.Clone(second)
		spoilMoves(first)
		if !slices.Equal(second, want) || !slices.Equal(impl.Ordered(list), want) {
			t.Fatalf("two answers share memory, of %s", showMoves(kept))
		}
		spoilMoves(second)
		if !slices.Equal(list, kept) {
			t.Fatalf("Ordered answers what it was given: %s", showMoves(kept))
		}
		wantAsOrdered(t, list)
	}
}

// P21: what AtOnce answers is new memory each time: neither from nor another answer is in it.
func TestAtOnceIsNewMemory(t *testing.T) {
	for _, list := range someMoves(195, 2000) {
		from := upTo(50, 49+int64(len(list)))
		kept := slices.Clone(from)
		first, second := impl.AtOnce(list, from), impl.AtOnce(list, from)
		want := slices.Clone(second)
		spoil(first)
		spoil(first[:0])
		if !slices.Equal(second, want) || !slices.Equal(impl.AtOnce(list, from), want) {
			t.Fatalf("two answers share memory, of %s", showMoves(list))
		}
		if !slices.Equal(from, kept) {
			t.Fatalf("AtOnce answers what it was given, of %s", showMoves(list))
		}
		spoil(from)
		if !slices.Equal(second, want) {
			t.Fatalf("what was answered changes with what was given, of %s", showMoves(list))
		}
	}
}

// P21: what was answered stays as it is when the moves are others.
func TestOrderedStaysWhenTheMovesChange(t *testing.T) {
	for _, list := range someMoves(196, 2000) {
		given := slices.Clone(list)
		from := upTo(50, 49+int64(len(list)))
		ordered, at := impl.Ordered(given), impl.AtOnce(given, from)
		wantMoves, wantAt := slices.Clone(ordered), slices.Clone(at)
		spoilMoves(given)
		if !slices.Equal(ordered, wantMoves) || !slices.Equal(at, wantAt) {
			t.Fatalf("what was answered changes with the moves: %s", showMoves(list))
		}
	}
}

// P21: the moves and the room behind them stay, and that room changes no answer.
func TestMovesGivenStay(t *testing.T) {
	for _, list := range someMoves(197, 1000) {
		for _, behind := range [][]impl.Move{moves("0<1 1<0 2<3"), moves("-2<-2"), moves("5<5 -1<-1 0<0 0<0 0<0 0<0 0<0 0<0 0<0"), slices.Repeat(moves("163<4"), 20)} {
			given, whole := movesInRoom(list, behind...)
			kept := slices.Clone(whole)
			for range 2 {
				if wantAsOrdered(t, given) != plainMovesOk(list) {
					t.Fatalf("other moves with room behind them: %s", showMoves(list))
				}
			}
			if !slices.Equal(whole, kept) || !slices.Equal(given, list) {
				t.Fatalf("the moves, or the room behind them, are others: %s", showMoves(list))
			}
		}
	}
}

// P21: the numbers and the room behind them stay, and that room changes no answer.
func TestNumbersOfAtOnceStay(t *testing.T) {
	for _, list := range someMoves(198, 500) {
		for _, filling := range []int64{-1, 0, 7, leastInt, greatestInt} {
			for count := range 11 {
				numbers := upTo(50, 49+int64(count))
				given, whole := inRoom(numbers, 9, filling)
				kept := slices.Clone(whole)
				want := []int64{}
				if plainMovesOk(list) && count == len(list) {
					want = numbers
				}
				for range 2 {
					if got := impl.AtOnce(list, given); !slices.Equal(got, want) {
						t.Fatalf("AtOnce of %v with %d behind tells %v, of %s", numbers, filling, got, showMoves(list))
					}
				}
				if !slices.Equal(whole, kept) || !slices.Equal(given, numbers) {
					t.Fatalf("%v, or the room behind them, are others, of %s", numbers, showMoves(list))
				}
			}
		}
	}
}

// What stands behind the list is not there, nor what stands ahead of it.
func TestOrderedOfPiecesOfAList(t *testing.T) {
	whole := moves("0<1 1<0 2<0 0<4 100<5 4<4 3<100 100<3 101<3 5<6 102<101 163<102")
	for from := range whole {
		for to := from; to <= len(whole); to++ {
			wantAsOrdered(t, whole[from:to])
		}
	}
	if !slices.Equal(impl.Ordered(whole[:2]), moves("-2<1 1<0 0<-2")) || !slices.Equal(impl.Ordered(whole[:1]), moves("0<1")) {
		t.Fatal("what stands behind the list counts")
	}
}

// Nothing is kept from call to call: whatever was asked between, the answer is the same.
func TestOrderedIsItsOwn(t *testing.T) {
	lists := someMoves(199, 1000)
	for i, list := range lists {
		wantAsOrdered(t, list)
		wantAsOrdered(t, lists[(i*7+3)%len(lists)])
		wantAsOrdered(t, list)
	}
}

// P21: whatever is given, each of the three answers, and answers as the document says.
func TestMovesAnswerAtEveryArgument(t *testing.T) {
	maker := newMoveMaker(200)
	numbers := append(append(manyNumbers(), noMoveHomes...), allHomes()...)
	right, wrong := 0, 0
	for i := range 20000 {
		list := maker.any()
		for range i % 3 {
			if len(list) > 0 {
				at := maker.next(len(list))
				list[at].To = numbers[maker.next(len(numbers))]
				list[maker.next(len(list))].From = numbers[maker.next(len(numbers))]
			}
		}
		for range max(0, i%20-10) {
			list = append(list, impl.Move{To: numbers[maker.next(len(numbers))], From: numbers[maker.next(len(numbers))]})
		}
		is := wantAsOrdered(t, list)
		right, wrong = right+int(flag(is)), wrong+int(flag(!is))
		var from []int64
		for range maker.next(12) {
			from = append(from, numbers[maker.next(len(numbers))])
		}
		want := []int64{}
		if is && len(from) == len(list) {
			want = from
		}
		if got := impl.AtOnce(list, from); !slices.Equal(got, want) {
			t.Fatalf("AtOnce of %v tells %v, of %s", from, got, showMoves(list))
		}
	}
	if right < 4000 || wrong < 4000 {
		t.Fatalf("%d lists are right, %d are not: too few to tell", right, wrong)
	}
}

// As many moves as nobody wants are no moves either.
func TestMovesOfManyMore(t *testing.T) {
	for _, many := range []int{9, 64, 69, 70, 255, 256, 264, 65536, 65544} {
		wantNotMoved(t, slices.Repeat(moves("0<1"), many))
		wantNotMoved(t, make([]impl.Move, many))
	}
}
