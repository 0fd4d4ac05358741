package tests

import (
	"slices"
	"testing"

	"loop.example/g00363/impl"
)

// A storing is a call of StoreWord.
type aStoring struct {
	spot aSpot
	w    int64
}

// storings are right ones, ones that change nothing, and ones of each fault.
var storings = []aStoring{
	{aSpot{0, 0}, 16909060}, {aSpot{60, 0}, greatestWord}, {aSpot{20, 40}, 0}, {aSpot{3, 4}, signBit},
	{aSpot{61, 0}, 1}, {aSpot{0, 61}, 1}, {aSpot{-1, 1}, 1}, {aSpot{1, -1}, 1}, {aSpot{0, 256}, 1}, {aSpot{greatestWord, 1}, 1}, {aSpot{greatestInt, 255}, 1}, {aSpot{0, 0}, -1}, {aSpot{0, 0}, 4294967296},
}

// inRoom is a copy of m with so much room behind it, which is filled; and all of it.
func inRoom(m []int64, room int, filling int64) ([]int64, []int64) {
	whole := append(slices.Clone(m), slices.Repeat([]int64{filling}, room)...)
	return whole[:len(m)], whole
}

// P21: what NewMemory answers is new memory each time.
func TestNewMemoriesAreNewMemory(t *testing.T) {
	for _, data := range []string{"", "ab", manyData(76, 63), manyData(77, 64), manyData(78, 65)} {
		want := slices.Clone(impl.NewMemory(data))
		first, second := impl.NewMemory(data), impl.NewMemory(data)
		spoil(first)
		if !slices.Equal(second, want) || !slices.Equal(impl.NewMemory(data), want) {
			t.Fatalf("NewMemory(%q) shares memory", data)
		}
	}
}

// P21: what StoreWord answers is new memory, also where it is as it was; neither the argument nor another answer is in it.
func TestStoredMemoriesAreNewMemory(t *testing.T) {
	for _, m := range append(manyMemories(), noMemories()...) {
		kept := slices.Clone(m)
		for _, s := range storings {
			want, _ := impl.StoreWord(kept, s.spot.at, s.spot.offset, s.w)
			want = slices.Clone(want)
			first, _ := impl.StoreWord(m, s.spot.at, s.spot.offset, s.w)
			second, _ := impl.StoreWord(m, s.spot.at, s.spot.offset, s.w)
			spoil(first)
			if !slices.Equal(m, kept) {
				t.Fatalf("StoreWord(%v, %v) answers its argument", kept, s)
			}
			if again, _ := impl.StoreWord(m, s.spot.at, s.spot.offset, s.w); !slices.Equal(second, want) || !slices.Equal(again, want) {
				t.Fatalf("two answers of StoreWord(%v, %v) share memory", kept, s)
			}
		}
		for place := range int64(61) {
			w, _ := impl.LoadWord(m, place, 0)
			same, _ := impl.StoreWord(m, place, 0, w)
			spoil(same)
			if !slices.Equal(m, kept) {
				t.Fatalf("StoreWord(%v, %d, 0, %d) answers its argument", kept, place, w)
			}
		}
	}
}

// P21: what was answered stays as it is when the memory that was given is another one.
func TestMemoryAnswersStayWhenTheMemoryChanges(t *testing.T) {
	for _, kept := range manyMemories() {
		for _, s := range storings {
			m := slices.Clone(kept)
			got, is := impl.StoreWord(m, s.spot.at, s.spot.offset, s.w)
			text := impl.TextOf(m)
			for i := range m {
				m[i] = 255 - m[i]
			}
			want := kept
			if is {
				want = plainStore(kept, s.spot.at+s.spot.offset, s.w)
			}
			if !slices.Equal(got, want) || !slices.Equal(plainNumbers(text), kept) {
				t.Fatalf("what was answered of %v changes with it", kept)
			}
		}
	}
}

// P21: arguments and the room behind them stay, and that room changes no answer.
func TestMemoriesGivenStay(t *testing.T) {
	for _, m := range append(manyMemories(), noMemories()...) {
		for _, filling := range []int64{0, 255, -1, 256} {
			given, whole := inRoom(m, 70, filling)
			kept := slices.Clone(whole)
			if impl.MemoryOk(given) != impl.MemoryOk(m) || impl.TextOf(given) != impl.TextOf(m) {
				t.Fatalf("%v is another memory with room behind it", m)
			}
			for _, s := range storings {
				w, there := impl.LoadWord(m, s.spot.at, s.spot.offset)
				wantLoaded(t, given, s.spot, w, there)
				want, done := impl.StoreWord(m, s.spot.at, s.spot.offset, s.w)
				wantStored(t, given, s.spot, s.w, want, done)
			}
			if !slices.Equal(whole, kept) {
				t.Fatalf("%v, or the room behind it, is another one", m)
			}
		}
	}
	// With what stands behind it the first would be a memory, and the second none any more.
	whole := append(make([]int64, 64), -1)
	wantNoMemory(t, whole[:63])
	wantMemory(t, whole[:64])
	wantNoMemory(t, whole)
}

// A memory that is a piece of a longer list is looked at from where it begins.
func TestMemoriesWithinALongerList(t *testing.T) {
	whole := append(append([]int64{-1, 7, 300}, plainNumbers(manyData(79, 64))...), 256, 9)
	kept := slices.Clone(whole)
	m := whole[3:67]
	wantMemory(t, m)
	for place := range int64(61) {
		wantLoaded(t, m, aSpot{place, 0}, plainLoad(kept[3:67], place), true)
		wantStored(t, m, aSpot{place, 0}, 16909060, plainStore(kept[3:67], place, 16909060), true)
	}
	wantLoaded(t, m, aSpot{61, 0}, 0, false)
	wantNoMemory(t, whole[2:66])
	wantNoMemory(t, whole[4:68])
	if !slices.Equal(whole, kept) {
		t.Fatal("the list around a memory is another one")
	}
}

// An empty list and nil are alike: none of them is a memory.
func TestMemoriesOfEmptyAndNil(t *testing.T) {
	for _, m := range [][]int64{nil, {}, make([]int64, 0, 64), make([]int64, 64)[:0]} {
		wantNoMemory(t, m)
		for _, s := range storings {
			wantLoaded(t, m, s.spot, 0, false)
			wantStored(t, m, s.spot, s.w, nil, false)
		}
	}
}

// P21: whatever is given, each function answers, and answers the same again.
func TestMemoryAnswersAtEveryArgument(t *testing.T) {
	maker := newBodyMaker(80)
	numbers := append(append(manyNumbers(), noBytes...), 0, 1, 4, 59, 60, 61, 63, 64, 255, 256)
	number := func() int64 { return numbers[maker.next(len(numbers))] }
	memories := append(manyMemories(), noMemories()...)
	for range 20000 {
		m := slices.Clone(memories[maker.next(len(memories))])
		if len(m) > 0 && maker.next(4) == 0 {
			m[maker.next(len(m))] = number()
		}
		at, offset, w := number(), number(), number()
		loaded, there := impl.LoadWord(m, at, offset)
		stored, done := impl.StoreWord(m, at, offset, w)
		wantLoaded(t, m, aSpot{at, offset}, loaded, there)
		wantStored(t, m, aSpot{at, offset}, w, stored, done)
		is := impl.MemoryOk(m)
		if is != impl.MemoryOk(m) || is != (len(impl.TextOf(m)) == 64) || is != (len(stored) == 64) || is != impl.MemoryOk(stored) {
			t.Fatalf("MemoryOk(%v) is %v, and the others say otherwise", m, is)
		}
		if there && !is || done != (there && impl.WordOk(w)) || !there && loaded != 0 || !impl.WordOk(loaded) {
			t.Fatalf("LoadWord(%v, %d, %d) = %d, %v, and StoreWord of %d is %v", m, at, offset, loaded, there, w, done)
		}
	}
}
