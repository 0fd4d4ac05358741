package tests

import (
	"slices"
	"strings"
	"testing"

	"loop.example/g00363/impl"
)

// noBytes are numbers that are no byte; some of them would be one if only their last bits were looked at.
var noBytes = []int64{-1, -2, -128, -255, -256, -257, 256, 257, 300, 511, 512, 65536, 65536 + 7, greatestWord, 4294967296, 4294967296 + 255, -4294967296, 1<<40 + 5, leastInt, leastInt + 1, greatestInt, greatestInt - 1}

// plainNumbers are the bytes of a text as numbers.
func plainNumbers(text string) []int64 {
	list := []int64{}
	for i := range len(text) {
		list = append(list, int64(text[i]))
	}
	return list
}

// manyMemories are those of one byte throughout, those in which each byte is another one, and those of a fixed sequence.
func manyMemories() [][]int64 {
	var list [][]int64
	for _, b := range []int64{0, 1, 127, 128, 254, 255} {
		list = append(list, slices.Repeat([]int64{b}, 64))
	}
	rising, high := make([]int64, 64), make([]int64, 64)
	for i := range rising {
		rising[i], high[i] = int64(i+1), int64(255-i)
	}
	list = append(list, rising, high)
	for seed := range uint64(12) {
		list = append(list, plainNumbers(manyData(seed+70, 64)))
	}
	return list
}

// changed is a copy of m that has n at at.
func changed(m []int64, at int, n int64) []int64 {
	other := slices.Clone(m)
	other[at] = n
	return other
}

// noMemories are of other lengths, or have one number, at the first, a middle or the last place, that is no byte; or many such.
func noMemories() [][]int64 {
	right := plainNumbers(manyData(71, 64))
	list := [][]int64{nil, {}, make([]int64, 0, 64), {0}, {97, 98}, right[:4], right[:32], right[:63], append(slices.Clone(right), 0), append(slices.Clone(right), 255), append(slices.Clone(right), -1), slices.Repeat(right, 2), make([]int64, 63), make([]int64, 65), make([]int64, 256), make([]int64, 320)}
	for _, m := range [][]int64{right, make([]int64, 64)} {
		for _, n := range noBytes {
			list = append(list, changed(m, 0, n), changed(m, 31, n), changed(m, 63, n))
		}
	}
	// Two faults that would make up for each other in a sum.
	list = append(list, changed(changed(right, 5, -1), 6, 256), changed(changed(make([]int64, 64), 0, -1), 63, 1))
	for _, n := range noBytes {
		list = append(list, slices.Repeat([]int64{n}, 64), slices.Repeat([]int64{n}, 63))
	}
	return list
}

func wantMemory(t *testing.T, m []int64) {
	t.Helper()
	if !impl.MemoryOk(m) {
		t.Fatalf("MemoryOk(%v) is false", m)
	}
	text := impl.TextOf(m)
	if !slices.Equal(plainNumbers(text), m) {
		t.Fatalf("TextOf(%v) = %q", m, text)
	}
	if got := impl.NewMemory(text); !slices.Equal(got, m) {
		t.Fatalf("NewMemory(%q) = %v", text, got)
	}
}

func wantNoMemory(t *testing.T, m []int64) {
	t.Helper()
	if impl.MemoryOk(m) {
		t.Fatalf("MemoryOk(%v) is true", m)
	}
	if text := impl.TextOf(m); text != "" {
		t.Fatalf("TextOf(%v) = %q", m, text)
	}
}

func wantNewMemory(t *testing.T, data string, want []int64) {
	t.Helper()
	if got := impl.NewMemory(data); !slices.Equal(got, want) {
		t.Fatalf("NewMemory(%q) = %v, want %v", data, got, want)
	}
}

func TestConstantsOfChapter7(t *testing.T) {
	if impl.MaxMemory != 64 {
		t.Fatalf("MaxMemory is %d", impl.MaxMemory)
	}
}

func TestMemoryOkOfRight(t *testing.T) {
	for _, m := range manyMemories() {
		wantMemory(t, m)
	}
}

func TestMemoryOkOfWrong(t *testing.T) {
	for _, m := range noMemories() {
		wantNoMemory(t, m)
	}
}

// MaxMemory numbers are a memory; fewer or more are none.
func TestMemoryOkOfEachLength(t *testing.T) {
	for size := range 200 {
		for _, b := range []int64{0, 1, 255} {
			m := slices.Repeat([]int64{b}, size)
			if size == 64 {
				wantMemory(t, m)
			} else {
				wantNoMemory(t, m)
			}
		}
	}
}

// At each place 0 and 255 are right, and -1 and 256 are not, whatever the others are.
func TestMemoryOkAtEachPlace(t *testing.T) {
	for _, m := range manyMemories() {
		for at := range m {
			wantMemory(t, changed(m, at, 0))
			wantMemory(t, changed(m, at, 255))
			wantNoMemory(t, changed(m, at, -1))
			wantNoMemory(t, changed(m, at, 256))
		}
	}
	for _, n := range noBytes {
		for at := range 64 {
			wantNoMemory(t, changed(make([]int64, 64), at, n))
		}
	}
}

// Each number from 0 to 255 is a byte, and none beside them.
func TestMemoryOkOfEachNumber(t *testing.T) {
	for n := int64(-600); n <= 1200; n++ {
		m := changed(slices.Repeat([]int64{9}, 64), int(n+600)%64, n)
		if n >= 0 && n <= 255 {
			wantMemory(t, m)
		} else {
			wantNoMemory(t, m)
		}
	}
}

func TestNewMemoryByHand(t *testing.T) {
	noughts := make([]int64, 64)
	wantNewMemory(t, "", noughts)
	wantNewMemory(t, "a", changed(noughts, 0, 97))
	wantNewMemory(t, "\x00", noughts)
	wantNewMemory(t, "\xff", changed(noughts, 0, 255))
	wantNewMemory(t, "\x00\xff", changed(noughts, 1, 255))
	wantNewMemory(t, "\xff\x00\x80\x7f", append([]int64{255, 0, 128, 127}, noughts[:60]...))
	// Texts are bytes: what is several bytes of one letter is several numbers.
	wantNewMemory(t, "\xc3\xa9\n", append([]int64{195, 169, 10}, noughts[:61]...))
	wantNewMemory(t, strings.Repeat("\x00", 63)+"\x01", changed(noughts, 63, 1))
	wantNewMemory(t, strings.Repeat("\xff", 63), changed(slices.Repeat([]int64{255}, 64), 63, 0))
	wantNewMemory(t, strings.Repeat("\xff", 64), slices.Repeat([]int64{255}, 64))
	wantNewMemory(t, strings.Repeat("\xff", 65), nil)
	wantNewMemory(t, strings.Repeat("\x00", 65), nil)
}

// Of each length up to MaxMemory: its bytes, then 0. Of one more, and of all beyond, nothing.
func TestNewMemoryOfEachLength(t *testing.T) {
	for size := range 200 {
		for seed := range uint64(4) {
			data := manyData(seed*200+uint64(size), size)
			if size > 64 {
				wantNewMemory(t, data, nil)
				continue
			}
			wantNewMemory(t, data, append(plainNumbers(data), make([]int64, 64-size)...))
			wantMemory(t, impl.NewMemory(data))
			if got := impl.TextOf(impl.NewMemory(data)); got != data+strings.Repeat("\x00", 64-size) {
				t.Fatalf("TextOf of NewMemory(%q) = %q", data, got)
			}
		}
	}
	for _, size := range []int{255, 256, 320, 65536, 65600, 1 << 20} {
		wantNewMemory(t, strings.Repeat("a", size), nil)
	}
}

func TestTextOfByHand(t *testing.T) {
	m := make([]int64, 64)
	m[0], m[1], m[2], m[62], m[63] = 97, 255, 128, 10, 1
	if got, want := impl.TextOf(m), "a\xff\x80"+strings.Repeat("\x00", 59)+"\n\x01"; got != want {
		t.Fatalf("TextOf(%v) = %q, want %q", m, got, want)
	}
	if got := impl.TextOf(make([]int64, 64)); got != strings.Repeat("\x00", 64) {
		t.Fatalf("TextOf of noughts = %q", got)
	}
}
