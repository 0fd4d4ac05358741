package tests

import (
	"math"
	"math/big"
	"testing"

	"loop.example/g00363/impl"
)

const (
	leastInt     = math.MinInt64
	greatestInt  = math.MaxInt64
	greatestWord = 4294967295
	signBit      = 2147483648
)

// edgeWords are words at which a sign, a carry or a move changes something.
var edgeWords = []int64{
	0, 1, 2, 3, 5, 7, 30, 31, 32, 33, 63, 64, 65, 255, 256, 65535, 65536,
	2147483646, 2147483647, signBit, 2147483649, 2863311530, 1431655765,
	4294967263, 4294967264, 4294967289, 4294967294, greatestWord,
}

var noWords = []int64{-1, -2, 4294967296, 4294967297, -2147483648, -4294967296, 8589934592, leastInt, leastInt + 1, greatestInt, greatestInt - 1}

// manyWords are the edges and words of a fixed sequence: the same ones at each run.
func manyWords() []int64 {
	list := append([]int64{}, edgeWords...)
	state := uint64(20261117)
	for range 60 {
		state = state*6364136223846793005 + 1442695040888963407
		list = append(list, int64(state>>32))
	}
	return list
}

func manyNumbers() []int64 {
	list := append(manyWords(), noWords...)
	for _, n := range manyWords() {
		list = append(list, -n, n<<31, n<<32|n)
	}
	return list
}

func remainder(n *big.Int) int64 {
	return new(big.Int).Mod(n, big.NewInt(1<<32)).Int64()
}

// plainSigned is Signed of a word, said by the document's own words.
func plainSigned(w int64) int64 {
	if w >= signBit {
		return w - 4294967296
	}
	return w
}

func flag(b bool) int64 {
	if b {
		return 1
	}
	return 0
}

// plainBits works bit by bit, so that it shares nothing with the operators of the program.
func plainBits(a, b int64, rule func(x, y int64) int64) int64 {
	sum, weight := int64(0), int64(1)
	for range 32 {
		sum += weight * rule(a%2, b%2)
		a, b, weight = a/2, b/2, weight*2
	}
	return sum
}

func plainDone(kind, a, b int64) (int64, int64) {
	x, y, z := big.NewInt(a), big.NewInt(b), new(big.Int)
	power := new(big.Int).Exp(big.NewInt(2), big.NewInt(b%32), nil)
	switch kind {
	case 1:
		return remainder(z.Add(x, y)), 0
	case 2:
		return remainder(z.Sub(x, y)), 0
	case 3:
		return remainder(z.Mul(x, y)), 0
	case 4:
		if b == 0 {
			return 0, 1
		}
		if a == signBit && b == greatestWord {
			return 0, 2
		}
		return remainder(z.Quo(big.NewInt(plainSigned(a)), big.NewInt(plainSigned(b)))), 0
	case 5:
		return plainBits(a, b, func(x, y int64) int64 { return x * y }), 0
	case 6:
		return plainBits(a, b, func(x, y int64) int64 { return x + y - x*y }), 0
	case 7:
		return plainBits(a, b, func(x, y int64) int64 { return (x + y) % 2 }), 0
	case 8:
		return remainder(z.Mul(x, power)), 0
	case 9:
		return z.Quo(x, power).Int64(), 0
	case 10:
		return flag(a == b), 0
	case 11:
		return flag(plainSigned(a) < plainSigned(b)), 0
	}
	return flag(a < b), 0
}

func wantDone(t *testing.T, kind, a, b, value, code int64) {
	t.Helper()
	if v, c := impl.Done(kind, a, b); v != value || c != code {
		t.Errorf("Done(%d, %d, %d) = %d, %d, want %d, %d", kind, a, b, v, c, value, code)
	}
}

func TestConstantsOfChapter1(t *testing.T) {
	kinds := []int64{impl.BoAdd, impl.BoSub, impl.BoMul, impl.BoDiv, impl.BoAnd, impl.BoOr, impl.BoXor, impl.BoShl, impl.BoShr, impl.BoEq, impl.BoLess, impl.BoBelow}
	for i, k := range kinds {
		if k != int64(i)+1 {
			t.Errorf("kind %d is %d", i+1, k)
		}
	}
	codes := []int64{impl.OcDone, impl.OcZero, impl.OcOver, impl.OcBounds, impl.OcTrap, impl.OcFuel, impl.OcDeep, impl.OcBad}
	for i, c := range codes {
		if c != int64(i) {
			t.Errorf("code %d is %d", i, c)
		}
	}
}

func TestWordOk(t *testing.T) {
	for _, w := range manyWords() {
		if !impl.WordOk(w) {
			t.Errorf("WordOk(%d) is false", w)
		}
	}
	for _, n := range noWords {
		if impl.WordOk(n) {
			t.Errorf("WordOk(%d) is true", n)
		}
	}
}

func TestWrap(t *testing.T) {
	rows := [][2]int64{
		{0, 0}, {1, 1}, {-1, greatestWord}, {greatestWord, greatestWord}, {4294967296, 0}, {4294967297, 1},
		{-4294967296, 0}, {-4294967297, greatestWord}, {-2147483648, signBit}, {signBit, signBit},
		{greatestInt, greatestWord}, {leastInt, 0}, {leastInt + 1, 1}, {12884901895, 7},
	}
	for _, r := range rows {
		if got := impl.Wrap(r[0]); got != r[1] {
			t.Errorf("Wrap(%d) = %d, want %d", r[0], got, r[1])
		}
	}
	for _, n := range manyNumbers() {
		if got := impl.Wrap(n); got != remainder(big.NewInt(n)) {
			t.Errorf("Wrap(%d) = %d, want %d", n, got, remainder(big.NewInt(n)))
		}
	}
}

func TestSigned(t *testing.T) {
	rows := [][2]int64{
		{0, 0}, {1, 1}, {2147483647, 2147483647}, {signBit, -2147483648}, {2147483649, -2147483647},
		{4294967294, -2}, {greatestWord, -1},
	}
	for _, r := range rows {
		if got := impl.Signed(r[0]); got != r[1] {
			t.Errorf("Signed(%d) = %d, want %d", r[0], got, r[1])
		}
	}
	for _, w := range manyWords() {
		if got := impl.Signed(w); got != plainSigned(w) || impl.Wrap(got) != w {
			t.Errorf("Signed(%d) = %d, want %d", w, got, plainSigned(w))
		}
	}
	for _, n := range noWords {
		if got := impl.Signed(n); got != 0 {
			t.Errorf("Signed(%d) = %d, want 0", n, got)
		}
	}
}

func TestDoneOrdinary(t *testing.T) {
	rows := [][4]int64{
		{impl.BoAdd, 2, 3, 5}, {impl.BoAdd, greatestWord, 1, 0}, {impl.BoAdd, greatestWord, greatestWord, 4294967294},
		{impl.BoSub, 5, 3, 2}, {impl.BoSub, 0, 1, greatestWord}, {impl.BoSub, 3, greatestWord, 4},
		{impl.BoMul, 6, 7, 42}, {impl.BoMul, 65536, 65536, 0}, {impl.BoMul, greatestWord, greatestWord, 1}, {impl.BoMul, signBit, 3, signBit},
		{impl.BoAnd, 12, 10, 8}, {impl.BoOr, 12, 10, 14}, {impl.BoXor, 12, 10, 6}, {impl.BoXor, greatestWord, 1, 4294967294},
		{impl.BoEq, 7, 7, 1}, {impl.BoEq, 7, 8, 0}, {impl.BoEq, 0, greatestWord, 0},
		{impl.BoLess, 1, 2, 1}, {impl.BoLess, 2, 2, 0}, {impl.BoLess, greatestWord, 0, 1}, {impl.BoLess, signBit, 2147483647, 1}, {impl.BoLess, 2147483647, signBit, 0},
		{impl.BoBelow, 1, 2, 1}, {impl.BoBelow, 2, 2, 0}, {impl.BoBelow, greatestWord, 0, 0}, {impl.BoBelow, signBit, 2147483647, 0}, {impl.BoBelow, 2147483647, signBit, 1},
	}
	for _, r := range rows {
		wantDone(t, r[0], r[1], r[2], r[3], impl.OcDone)
	}
}

func TestDoneDivides(t *testing.T) {
	rows := [][3]int64{
		{7, 2, 3}, {4294967289, 2, 4294967293}, {7, 4294967294, 4294967293}, {4294967289, 4294967294, 3},
		{0, 5, 0}, {0, greatestWord, 0}, {1, 2, 0}, {greatestWord, 2, 0}, {signBit, 1, signBit}, {signBit, 2, 3221225472},
		{2147483647, greatestWord, 2147483649}, {2147483649, greatestWord, 2147483647}, {signBit, signBit, 1}, {2147483647, signBit, 0},
	}
	for _, r := range rows {
		wantDone(t, impl.BoDiv, r[0], r[1], r[2], impl.OcDone)
	}
	for _, a := range manyWords() {
		wantDone(t, impl.BoDiv, a, 0, 0, impl.OcZero)
	}
	wantDone(t, impl.BoDiv, signBit, greatestWord, 0, impl.OcOver)
}

func TestDoneMoves(t *testing.T) {
	rows := [][4]int64{
		{impl.BoShl, 1, 0, 1}, {impl.BoShl, 1, 1, 2}, {impl.BoShl, 1, 31, signBit}, {impl.BoShl, 1, 32, 1}, {impl.BoShl, 1, 33, 2}, {impl.BoShl, 3, 31, signBit}, {impl.BoShl, greatestWord, 1, 4294967294}, {impl.BoShl, 1, greatestWord, signBit}, {impl.BoShl, 5, signBit, 5},
		{impl.BoShr, signBit, 0, signBit}, {impl.BoShr, signBit, 31, 1}, {impl.BoShr, signBit, 32, signBit}, {impl.BoShr, signBit, 33, 1073741824}, {impl.BoShr, greatestWord, 1, 2147483647}, {impl.BoShr, greatestWord, greatestWord, 1}, {impl.BoShr, 5, signBit, 5}, {impl.BoShr, 1, 1, 0},
	}
	for _, r := range rows {
		wantDone(t, r[0], r[1], r[2], r[3], impl.OcDone)
	}
}

func TestDoneAgainstPlainOnes(t *testing.T) {
	words := manyWords()
	for kind := int64(impl.BoAdd); kind <= impl.BoBelow; kind++ {
		for _, a := range words {
			for _, b := range words {
				value, code := plainDone(kind, a, b)
				wantDone(t, kind, a, b, value, code)
			}
		}
	}
}

func TestDoneRefusesWhatIsNoWord(t *testing.T) {
	for kind := int64(impl.BoAdd); kind <= impl.BoBelow; kind++ {
		for _, n := range noWords {
			for _, w := range []int64{0, 1, signBit, greatestWord, n} {
				wantDone(t, kind, n, w, 0, impl.OcBad)
				wantDone(t, kind, w, n, 0, impl.OcBad)
			}
		}
	}
}

func TestDoneRefusesOtherKinds(t *testing.T) {
	for _, kind := range []int64{0, -1, -4, 13, 14, 256 + 4, 4294967296 + 1, leastInt, greatestInt} {
		for _, a := range []int64{-1, 0, 1, 7, greatestWord, greatestWord + 1} {
			for _, b := range []int64{-1, 0, 1, 7, greatestWord, greatestWord + 1} {
				wantDone(t, kind, a, b, 0, impl.OcBad)
			}
		}
	}
}

// P1, its first half; and of what is not OcDone the value is 0.
func TestWhatIsDoneIsAWord(t *testing.T) {
	numbers := append(manyWords(), noWords...)
	for kind := int64(-1); kind <= 14; kind++ {
		for _, a := range numbers {
			for _, b := range numbers {
				value, code := impl.Done(kind, a, b)
				if value < 0 || value > greatestWord {
					t.Fatalf("Done(%d, %d, %d) = %d is no word", kind, a, b, value)
				}
				if code != impl.OcDone && value != 0 {
					t.Fatalf("Done(%d, %d, %d) = %d beside code %d", kind, a, b, value, code)
				}
			}
		}
	}
}
