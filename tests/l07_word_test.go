package tests

import (
	"slices"
	"testing"

	"loop.example/g00363/impl"
)

// A spot is where a word is told to stand.
type aSpot struct{ at, offset int64 }

// spotsOf are all ways to tell a place from 0 on: by at alone, by offset alone, and by both.
func spotsOf(place int64) []aSpot {
	var list []aSpot
	for offset := range min(place, 255) + 1 {
		list = append(list, aSpot{place - offset, offset})
	}
	return list
}

// noSpots are no places: an at that is no word, an offset out of range, or both beyond the last place. Of many the sum, or the last bits of it, would be a place.
func noSpots() []aSpot {
	list := []aSpot{
		{61, 0}, {0, 61}, {60, 1}, {1, 60}, {30, 31}, {62, 0}, {63, 0}, {64, 0}, {0, 62}, {0, 63}, {0, 64}, {60, 4}, {0, 255}, {60, 255}, {255, 0}, {256, 0}, {192, 64}, {65536, 0}, {65536, 255},
		{-1, 0}, {-1, 1}, {-4, 4}, {-1, 61}, {-255, 255}, {-195, 255}, {-2, 0}, {-60, 60}, {-4294967296, 0}, {-4294967295, 255}, {-2147483648, 0},
		{0, -1}, {1, -1}, {4, -4}, {60, -1}, {61, -1}, {64, -4}, {255, -255}, {2147483648, -2147483648}, {greatestWord, -greatestWord}, {greatestWord, -4294967291},
		{0, 256}, {0, 257}, {60, 256}, {0, 4294967296}, {4, 4294967296}, {0, -4294967296}, {0, greatestWord}, {1, greatestWord}, {0, greatestInt}, {60, greatestInt}, {0, leastInt}, {60, leastInt}, {1, leastInt + 60},
		{greatestWord, 0}, {greatestWord, 1}, {greatestWord, 61}, {greatestWord, 255}, {greatestWord - 3, 0}, {greatestWord - 3, 4}, {greatestWord - 254, 255}, {4294967041, 255}, {signBit, 0}, {signBit - 1, 0},
		{4294967296, 0}, {4294967296, 60}, {4294967297, 0}, {4294967296 + 60, 0}, {4294967300, -4}, {8589934592, 0}, {1 << 40, 0}, {1<<40 + 4, 8},
		{greatestInt, 0}, {greatestInt, 1}, {greatestInt, 255}, {greatestInt - 1, 255}, {greatestInt, greatestInt}, {greatestInt, leastInt}, {leastInt, 0}, {leastInt, 255}, {leastInt + 60, 0}, {leastInt, leastInt}, {leastInt, greatestInt}, {leastInt + 1, greatestInt},
	}
	for place := int64(0); place <= 60; place++ {
		list = append(list, aSpot{place + 1, -1}, aSpot{-1, place + 1}, aSpot{place + 4294967296, 0}, aSpot{place, 256}, aSpot{4294967296 - 200 + place, 200}, aSpot{place - 4294967296, 0}, aSpot{place, -4294967296}, aSpot{greatestInt, place - greatestInt})
	}
	return list
}

// plainLoad is the word at a place that is there, by sums alone.
func plainLoad(m []int64, place int64) int64 {
	return m[place] + 256*(m[place+1]+256*(m[place+2]+256*m[place+3]))
}

// plainStore is m with the bytes of w at a place that is there, by remainders alone.
func plainStore(m []int64, place, w int64) []int64 {
	other := slices.Clone(m)
	for i := range int64(4) {
		other[place+i] = w % 256
		w /= 256
	}
	return other
}

func wantLoaded(t *testing.T, m []int64, s aSpot, want int64, there bool) {
	t.Helper()
	if w, is := impl.LoadWord(m, s.at, s.offset); w != want || is != there {
		t.Fatalf("LoadWord(%v, %d, %d) = %d, %v, want %d, %v", m, s.at, s.offset, w, is, want, there)
	}
}

func wantStored(t *testing.T, m []int64, s aSpot, w int64, want []int64, done bool) {
	t.Helper()
	if got, is := impl.StoreWord(m, s.at, s.offset, w); !slices.Equal(got, want) || is != done {
		t.Fatalf("StoreWord(%v, %d, %d, %d) = %v, %v, want %v, %v", m, s.at, s.offset, w, got, is, want, done)
	}
}

func TestLoadWordByHand(t *testing.T) {
	m := make([]int64, 64)
	for i := range m {
		m[i] = int64(i + 1)
	}
	wantLoaded(t, m, aSpot{0, 0}, 0x04030201, true)
	wantLoaded(t, m, aSpot{1, 0}, 0x05040302, true)
	wantLoaded(t, m, aSpot{0, 1}, 0x05040302, true)
	wantLoaded(t, m, aSpot{2, 3}, 0x09080706, true)
	wantLoaded(t, m, aSpot{60, 0}, 0x403f3e3d, true)
	wantLoaded(t, m, aSpot{0, 60}, 0x403f3e3d, true)
	wantLoaded(t, m, aSpot{59, 1}, 0x403f3e3d, true)
	wantLoaded(t, m, aSpot{61, 0}, 0, false)
	wantLoaded(t, m, aSpot{0, 61}, 0, false)
	wantLoaded(t, m, aSpot{60, 1}, 0, false)
}

// The lowest byte stands first, and a word with its highest bit set is not below 0.
func TestLoadWordOfOneByte(t *testing.T) {
	for place := range int64(61) {
		for i, weight := range []int64{1, 256, 65536, 16777216} {
			for _, b := range []int64{1, 127, 128, 255} {
				m := changed(make([]int64, 64), int(place)+i, b)
				wantLoaded(t, m, aSpot{place, 0}, b*weight, true)
			}
		}
	}
	wantLoaded(t, slices.Repeat([]int64{255}, 64), aSpot{8, 0}, greatestWord, true)
	wantLoaded(t, make([]int64, 64), aSpot{8, 0}, 0, true)
	wantLoaded(t, changed(make([]int64, 64), 63, 128), aSpot{60, 0}, signBit, true)
}

func TestStoreWordByHand(t *testing.T) {
	m := make([]int64, 64)
	for i := range m {
		m[i] = int64(i + 100)
	}
	for _, c := range []struct {
		spot  aSpot
		w     int64
		place int
		bytes []int64
	}{
		{aSpot{0, 0}, 0x04030201, 0, []int64{1, 2, 3, 4}}, {aSpot{60, 0}, 0x04030201, 60, []int64{1, 2, 3, 4}}, {aSpot{0, 60}, 16909060, 60, []int64{4, 3, 2, 1}}, {aSpot{7, 6}, 255, 13, []int64{255, 0, 0, 0}},
		{aSpot{5, 0}, 0, 5, []int64{0, 0, 0, 0}}, {aSpot{0, 5}, greatestWord, 5, []int64{255, 255, 255, 255}}, {aSpot{56, 4}, signBit, 60, []int64{0, 0, 0, 128}}, {aSpot{1, 1}, 2147483647, 2, []int64{255, 255, 255, 127}}, {aSpot{3, 0}, 256, 3, []int64{0, 1, 0, 0}}, {aSpot{3, 0}, 4294967040, 3, []int64{0, 255, 255, 255}},
	} {
		want := slices.Replace(slices.Clone(m), c.place, c.place+4, c.bytes...)
		wantStored(t, m, c.spot, c.w, want, true)
	}
	for _, s := range []aSpot{{61, 0}, {0, 61}, {60, 1}, {-1, 1}, {1, -1}, {0, 256}, {4294967296, 0}} {
		wantStored(t, m, s, 16909060, m, false)
	}
	wantStored(t, m[:63], aSpot{0, 0}, 16909060, nil, false)
}

// P7: what is stored is loaded, told by the same spot or by another one of that place, and all other bytes stay.
func TestWhatIsStoredIsLoadedAndAllElseStays(t *testing.T) {
	words := manyWords()
	for i, m := range manyMemories() {
		for place := range int64(61) {
			spots := spotsOf(place)
			for j, s := range spots {
				w := words[(i*7+int(place)*5+j)%len(words)]
				wantLoaded(t, m, s, plainLoad(m, place), true)
				got, is := impl.StoreWord(m, s.at, s.offset, w)
				if want := plainStore(m, place, w); !is || !slices.Equal(got, want) {
					t.Fatalf("StoreWord(%v, %d, %d, %d) = %v, %v, want %v", m, s.at, s.offset, w, got, is, want)
				}
				for b := range int64(64) {
					if (b < place || b > place+3) && got[b] != m[b] {
						t.Fatalf("StoreWord(%v, %d, %d, %d): byte %d is %d", m, s.at, s.offset, w, b, got[b])
					}
				}
				wantLoaded(t, got, s, w, true)
				wantLoaded(t, got, spots[len(spots)-1-j], w, true)
			}
		}
	}
}

func TestEachWordStoredIsLoaded(t *testing.T) {
	m := plainNumbers(manyData(72, 64))
	for i, w := range manyWords() {
		for _, place := range []int64{0, 1, 30, 59, 60, int64(i) % 61} {
			wantStored(t, m, aSpot{place, 0}, w, plainStore(m, place, w), true)
			wantStored(t, m, aSpot{0, place}, w, plainStore(m, place, w), true)
			got, _ := impl.StoreWord(m, place, 0, w)
			wantMemory(t, got)
			wantLoaded(t, got, aSpot{place, 0}, w, true)
		}
	}
}

// What is loaded, stored again at its place, changes nothing; and it is true all the same.
func TestWhatIsLoadedStoredAgainChangesNothing(t *testing.T) {
	for _, m := range manyMemories() {
		for place := range int64(61) {
			w, _ := impl.LoadWord(m, place, 0)
			wantStored(t, m, aSpot{place, 0}, w, m, true)
		}
	}
}

// One word after the other, also into one another: what is there at last is what was stored there last.
func TestManyWordsStoredOneAfterTheOther(t *testing.T) {
	maker, words := newBodyMaker(73), manyWords()
	m := impl.NewMemory(manyData(73, 40))
	want := slices.Clone(m)
	for range 3000 {
		place := int64(maker.next(63))
		offset := int64(maker.next(int(place) + 1))
		w, is := words[maker.next(len(words))], place <= 60
		if is {
			want = plainStore(want, place, w)
		}
		got, done := impl.StoreWord(m, place-offset, offset, w)
		if done != is || !slices.Equal(got, want) {
			t.Fatalf("StoreWord(%v, %d, %d, %d) = %v, %v, want %v, %v", m, place-offset, offset, w, got, done, want, is)
		}
		m = got
	}
	for place := range int64(61) {
		wantLoaded(t, m, aSpot{place, 0}, plainLoad(want, place), true)
	}
}

// Every place beyond the last one, by at alone, by offset alone and by both, is none.
func TestPlacesBehindTheLast(t *testing.T) {
	for _, m := range manyMemories() {
		for place := int64(61); place <= 600; place += 1 + place/64*7 {
			for _, s := range spotsOf(place) {
				wantLoaded(t, m, s, 0, false)
				wantStored(t, m, s, 16909060, m, false)
			}
		}
	}
}

func TestSpotsThatAreNone(t *testing.T) {
	for _, m := range manyMemories() {
		for i, s := range noSpots() {
			wantLoaded(t, m, s, 0, false)
			for _, w := range []int64{0, 1, greatestWord, edgeWords[i%len(edgeWords)], noWords[i%len(noWords)]} {
				wantStored(t, m, s, w, m, false)
			}
		}
	}
}

// At each at and offset of many: there is a word just where at is a word, offset is from 0 to 255, and four bytes are there.
func TestSpotsOfManyNumbers(t *testing.T) {
	m := plainNumbers(manyData(74, 64))
	numbers := append(manyNumbers(), noBytes...)
	for n := int64(-70); n <= 330; n++ {
		numbers = append(numbers, n)
	}
	for _, at := range numbers {
		for _, offset := range numbers {
			s := aSpot{at, offset}
			// What is no more than 60 each cannot leave int64 as a sum.
			if at >= 0 && offset >= 0 && at <= 60 && offset <= 60 && at+offset <= 60 {
				wantLoaded(t, m, s, plainLoad(m, at+offset), true)
				wantStored(t, m, s, 305419896, plainStore(m, at+offset, 305419896), true)
			} else {
				wantLoaded(t, m, s, 0, false)
				wantStored(t, m, s, 305419896, m, false)
			}
		}
	}
}

// What is no word is not stored: the memory is as it is, wherever it was to stand.
func TestStoreWordOfNoWord(t *testing.T) {
	noneOfThem := append(slices.Clone(noWords), -3, -255, -256, -16909060, 4294967296+7, 1<<40, 1<<40+255, 1<<62)
	for _, m := range manyMemories() {
		for _, w := range noneOfThem {
			for place := range int64(62) {
				wantStored(t, m, aSpot{place, 0}, w, m, false)
				wantStored(t, m, aSpot{0, place}, w, m, false)
			}
		}
	}
}

// Of what is no memory nothing is loaded, and StoreWord answers nothing, whatever else is not as told.
func TestWordsOfNoMemory(t *testing.T) {
	spots := append(noSpots(), spotsOf(0)...)
	spots = append(append(spots, spotsOf(20)...), spotsOf(60)...)
	for _, m := range noMemories() {
		for i, s := range spots {
			wantLoaded(t, m, s, 0, false)
			wantStored(t, m, s, edgeWords[i%len(edgeWords)], nil, false)
			wantStored(t, m, s, noWords[i%len(noWords)], nil, false)
		}
	}
}

// A fault far from the four bytes, or among them, is a fault all the same; a word over it does not mend it.
func TestWordsOfAMemoryWithOneFault(t *testing.T) {
	right := plainNumbers(manyData(75, 64))
	for at := range 64 {
		for _, n := range []int64{-1, 256} {
			m := changed(right, at, n)
			for place := range int64(61) {
				wantLoaded(t, m, aSpot{place, 0}, 0, false)
				wantStored(t, m, aSpot{place, 0}, 16909060, nil, false)
			}
		}
	}
}
