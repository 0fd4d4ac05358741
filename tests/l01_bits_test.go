package tests

import (
	"math/big"
	"testing"

	"loop.example/g00363/impl"
)

// plainPiece adds the bits up one by one and leaves out those that a word does not have.
func plainPiece(w, from, count int64) int64 {
	sum := int64(0)
	for i := int64(0); i < count && from+i < 32; i++ {
		sum += int64(big.NewInt(w).Bit(int(from+i))) << i
	}
	return sum
}

func TestBits(t *testing.T) {
	rows := [][4]int64{
		{240, 4, 4, 15}, {240, 0, 4, 0}, {240, 3, 2, 2}, {greatestWord, 0, 1, 1}, {greatestWord, 0, 31, 2147483647}, {greatestWord, 0, 32, greatestWord},
		{greatestWord, 1, 1, 1}, {greatestWord, 1, 31, 2147483647}, {greatestWord, 1, 32, 2147483647},
		{greatestWord, 31, 1, 1}, {greatestWord, 31, 2, 1}, {greatestWord, 31, 32, 1}, {greatestWord, 28, 8, 15},
		{signBit, 31, 1, 1}, {signBit, 30, 2, 2}, {signBit, 30, 1, 0}, {signBit, 0, 32, signBit}, {0, 0, 32, 0},
	}
	for _, r := range rows {
		if got := impl.Bits(r[0], r[1], r[2]); got != r[3] {
			t.Errorf("Bits(%d, %d, %d) = %d, want %d", r[0], r[1], r[2], got, r[3])
		}
	}
	for _, w := range manyWords() {
		for from := int64(0); from <= 31; from++ {
			for count := int64(1); count <= 32; count++ {
				if got, want := impl.Bits(w, from, count), plainPiece(w, from, count); got != want {
					t.Fatalf("Bits(%d, %d, %d) = %d, want %d", w, from, count, got, want)
				}
			}
		}
	}
}

func TestBitsOutOfRange(t *testing.T) {
	rows := [][3]int64{
		{greatestWord, -1, 1}, {greatestWord, -1, 32}, {greatestWord, 32, 1}, {greatestWord, 33, 1}, {greatestWord, 64, 1},
		{greatestWord, 0, 0}, {greatestWord, 31, 0}, {greatestWord, 0, -1}, {greatestWord, 0, 33}, {greatestWord, 31, 33}, {greatestWord, 0, 64},
		{greatestWord, leastInt, 1}, {greatestWord, greatestInt, 1}, {greatestWord, 0, leastInt}, {greatestWord, 0, greatestInt},
		{greatestWord, greatestInt, greatestInt}, {greatestWord, leastInt, leastInt},
	}
	for _, n := range noWords {
		rows = append(rows, [3]int64{n, 0, 1}, [3]int64{n, 0, 32}, [3]int64{n, 31, 1})
	}
	for _, r := range rows {
		if got := impl.Bits(r[0], r[1], r[2]); got != 0 {
			t.Errorf("Bits(%d, %d, %d) = %d, want 0", r[0], r[1], r[2], got)
		}
	}
}

func TestExtended(t *testing.T) {
	rows := [][3]int64{
		{0, 1, 0}, {1, 1, -1}, {0, 2, 0}, {1, 2, 1}, {2, 2, -2}, {3, 2, -1}, {7, 4, 7}, {8, 4, -8}, {15, 4, -1},
		{2047, 12, 2047}, {2048, 12, -2048}, {4095, 12, -1}, {1073741823, 31, 1073741823}, {1073741824, 31, -1073741824}, {2147483647, 31, -1},
		{0, 32, 0}, {2147483647, 32, 2147483647}, {signBit, 32, -2147483648}, {greatestWord, 32, -1},
	}
	for _, r := range rows {
		if got := impl.Extended(r[0], r[1]); got != r[2] {
			t.Errorf("Extended(%d, %d) = %d, want %d", r[0], r[1], got, r[2])
		}
	}
}

func TestExtendedAtTheEdgesOfEachSize(t *testing.T) {
	for bits := int64(1); bits <= 32; bits++ {
		half := int64(1)
		for range bits - 1 {
			half *= 2
		}
		rows := [][2]int64{{0, 0}, {half - 1, half - 1}, {half, -half}, {2*half - 1, -1}, {2 * half, 0}, {2*half + 1, 0}, {-1, 0}, {-half, 0}}
		for _, r := range rows {
			if got := impl.Extended(r[0], bits); got != r[1] {
				t.Errorf("Extended(%d, %d) = %d, want %d", r[0], bits, got, r[1])
			}
		}
	}
}

func TestExtendedOutOfRange(t *testing.T) {
	rows := [][2]int64{
		{0, 0}, {1, 0}, {1, -1}, {1, 33}, {greatestWord, 33}, {8589934591, 33}, {1, 63}, {1, 64}, {1, 65}, {1, leastInt}, {1, greatestInt},
		{2, 1}, {16, 4}, {-1, 4}, {-8, 4}, {4294967296, 32}, {-1, 32}, {leastInt, 32}, {greatestInt, 32}, {leastInt, leastInt}, {greatestInt, greatestInt},
	}
	for _, r := range rows {
		if got := impl.Extended(r[0], r[1]); got != 0 {
			t.Errorf("Extended(%d, %d) = %d, want 0", r[0], r[1], got)
		}
	}
}

// P1, its second half: of all 32 bits it is Signed, of fewer what these bits are with their own highest one as the sign.
func TestExtendedOfBitsIsSigned(t *testing.T) {
	for _, w := range manyWords() {
		if got, want := impl.Extended(impl.Bits(w, 0, 32), 32), impl.Signed(w); got != want || got != plainSigned(w) {
			t.Errorf("Extended of Bits of %d = %d, Signed is %d", w, got, want)
		}
		for bits := int64(1); bits <= 32; bits++ {
			raised := impl.Wrap(impl.Bits(w, 0, bits) << (32 - bits))
			if got, want := impl.Extended(impl.Bits(w, 0, bits), bits), plainSigned(raised)>>(32-bits); got != want {
				t.Errorf("Extended of the last %d bits of %d = %d, want %d", bits, w, got, want)
			}
		}
	}
}

// P21: whatever is given, each function answers, and answers the same again (numbers share no memory).
func TestWordsAnswerAtEveryArgument(t *testing.T) {
	var numbers []int64
	for n := int64(-2); n <= 66; n++ {
		numbers = append(numbers, n)
	}
	numbers = append(numbers, noWords...)
	numbers = append(numbers, signBit-1, signBit, signBit+1, greatestWord-1, greatestWord)
	for _, a := range numbers {
		if impl.Wrap(a) != impl.Wrap(a) || impl.Signed(a) != impl.Signed(a) || impl.WordOk(a) != impl.WordOk(a) {
			t.Fatalf("two answers at %d", a)
		}
		for _, b := range numbers {
			if impl.Extended(a, b) != impl.Extended(a, b) {
				t.Fatalf("two answers of Extended at %d, %d", a, b)
			}
			for _, c := range numbers {
				v, k := impl.Done(a, b, c)
				w, l := impl.Done(a, b, c)
				if v != w || k != l || impl.Bits(a, b, c) != impl.Bits(a, b, c) {
					t.Fatalf("two answers at %d, %d, %d", a, b, c)
				}
			}
		}
	}
}
