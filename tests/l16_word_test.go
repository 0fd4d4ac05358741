package tests

import (
	"testing"

	"loop.example/g00363/impl"
)

// wantByHand holds what is written by hand against the rows, too.
func wantByHand(t *testing.T, o impl.Op, want int64) {
	t.Helper()
	if !plainOpOk(o) || plainCodes[o.Kind-1].word(o) != want {
		t.Fatalf("the rows make %#x, not %#x, of %+v", plainCodes[o.Kind-1].word(o), want, o)
	}
	wantOp(t, o, want)
}

// Each Kind: with nothing, and with a bit here and there.
func TestWordOfThreeRegisters(t *testing.T) {
	for _, c := range []struct{ kind, nothing, some int64 }{
		{impl.CoAdd, 0b0000000_00000_00000_000_00000_0110011, 0b0000000_10011_01110_000_11001_0110011},
		{impl.CoSub, 0b0100000_00000_00000_000_00000_0110011, 0b0100000_10011_01110_000_11001_0110011},
		{impl.CoMul, 0b0000001_00000_00000_000_00000_0110011, 0b0000001_10011_01110_000_11001_0110011},
		{impl.CoDiv, 0b0000001_00000_00000_100_00000_0110011, 0b0000001_10011_01110_100_11001_0110011},
		{impl.CoAnd, 0b0000000_00000_00000_111_00000_0110011, 0b0000000_10011_01110_111_11001_0110011},
		{impl.CoOr, 0b0000000_00000_00000_110_00000_0110011, 0b0000000_10011_01110_110_11001_0110011},
		{impl.CoXor, 0b0000000_00000_00000_100_00000_0110011, 0b0000000_10011_01110_100_11001_0110011},
		{impl.CoShl, 0b0000000_00000_00000_001_00000_0110011, 0b0000000_10011_01110_001_11001_0110011},
		{impl.CoShr, 0b0000000_00000_00000_101_00000_0110011, 0b0000000_10011_01110_101_11001_0110011},
		{impl.CoLess, 0b0000000_00000_00000_010_00000_0110011, 0b0000000_10011_01110_010_11001_0110011},
		{impl.CoBelow, 0b0000000_00000_00000_011_00000_0110011, 0b0000000_10011_01110_011_11001_0110011},
	} {
		wantByHand(t, impl.Op{Kind: c.kind}, c.nothing)
		wantByHand(t, impl.Op{Kind: c.kind, D: 25, A: 14, B: 19}, c.some)
	}
}

func TestWordOfShortN(t *testing.T) {
	for _, c := range []struct{ kind, nothing, some, below int64 }{
		{impl.CoAddN, 0b000000000000_00000_000_00000_0010011, 0b001001011101_01110_000_11001_0010011, 0b100000000001_11111_000_00001_0010011},
		{impl.CoBelowN, 0b000000000000_00000_011_00000_0010011, 0b001001011101_01110_011_11001_0010011, 0b100000000001_11111_011_00001_0010011},
		{impl.CoLoad, 0b000000000000_00000_010_00000_0000011, 0b001001011101_01110_010_11001_0000011, 0b100000000001_11111_010_00001_0000011},
		{impl.CoBack, 0b000000000000_00000_000_00000_1100111, 0b001001011101_01110_000_11001_1100111, 0b100000000001_11111_000_00001_1100111},
	} {
		wantByHand(t, impl.Op{Kind: c.kind}, c.nothing)
		wantByHand(t, impl.Op{Kind: c.kind, D: 25, A: 14, N: 0b001001011101}, c.some)
		wantByHand(t, impl.Op{Kind: c.kind, D: 1, A: 31, N: -2047}, c.below)
		wantByHand(t, impl.Op{Kind: c.kind, N: -1}, c.nothing|0b111111111111<<20)
		wantByHand(t, impl.Op{Kind: c.kind, N: -2048}, c.nothing|0b100000000000<<20)
		wantByHand(t, impl.Op{Kind: c.kind, N: 2047}, c.nothing|0b011111111111<<20)
	}
}

func TestWordOfStore(t *testing.T) {
	wantByHand(t, impl.Op{Kind: impl.CoStore}, 0b0000000_00000_00000_010_00000_0100011)
	wantByHand(t, impl.Op{Kind: impl.CoStore, A: 14, B: 19, N: 0b0010010_11101}, 0b0010010_10011_01110_010_11101_0100011)
	wantByHand(t, impl.Op{Kind: impl.CoStore, A: 31, N: -1}, 0b1111111_00000_11111_010_11111_0100011)
	wantByHand(t, impl.Op{Kind: impl.CoStore, B: 31, N: -2048}, 0b1000000_11111_00000_010_00000_0100011)
	wantByHand(t, impl.Op{Kind: impl.CoStore, A: 16, B: 1, N: 2047}, 0b0111111_00001_10000_010_11111_0100011)
}

func TestWordOfNearN(t *testing.T) {
	for _, c := range []struct{ kind, middle int64 }{{impl.CoSame, 0b000}, {impl.CoUnlike, 0b001}, {impl.CoUnder, 0b110}} {
		middle := c.middle << 12
		wantByHand(t, impl.Op{Kind: c.kind}, 0b0_000000_00000_00000_000_0000_0_1100011|middle)
		// Bits 12, 11, 10 to 5, 4 to 1, 0: 0 1 001011 1010 0.
		wantByHand(t, impl.Op{Kind: c.kind, A: 14, B: 19, N: 0b0_1_001011_1010_0}, 0b0_001011_10011_01110_000_1010_1_1100011|middle)
		wantByHand(t, impl.Op{Kind: c.kind, N: -2}, 0b1_111111_00000_00000_000_1111_1_1100011|middle)
		wantByHand(t, impl.Op{Kind: c.kind, N: -4096}, 0b1_000000_00000_00000_000_0000_0_1100011|middle)
		wantByHand(t, impl.Op{Kind: c.kind, N: 4094}, 0b0_111111_00000_00000_000_1111_1_1100011|middle)
		wantByHand(t, impl.Op{Kind: c.kind, N: -2048}, 0b1_000000_00000_00000_000_0000_1_1100011|middle)
		wantByHand(t, impl.Op{Kind: c.kind, A: 31, B: 1, N: 30}, 0b0_000000_00001_11111_000_1111_0_1100011|middle)
	}
}

func TestWordOfFarN(t *testing.T) {
	wantByHand(t, impl.Op{Kind: impl.CoUpper}, 0b00000000000000000000_00000_0110111)
	wantByHand(t, impl.Op{Kind: impl.CoUpper, D: 25, N: 0b00010010001101000101}, 0b00010010001101000101_11001_0110111)
	wantByHand(t, impl.Op{Kind: impl.CoUpper, D: 31, N: 1048575}, 0b11111111111111111111_11111_0110111)
	wantByHand(t, impl.Op{Kind: impl.CoUpper, N: 524288}, 0b10000000000000000000_00000_0110111)
	wantByHand(t, impl.Op{Kind: impl.CoJump}, 0b0_0000000000_0_00000000_00000_1101111)
	// Bits 20, 19 to 12, 11, 10 to 1, 0: 0 10100110 1 0010111010 0.
	wantByHand(t, impl.Op{Kind: impl.CoJump, D: 25, N: 0b0_10100110_1_0010111010_0}, 0b0_0010111010_1_10100110_11001_1101111)
	wantByHand(t, impl.Op{Kind: impl.CoJump, N: -2}, 0b1_1111111111_1_11111111_00000_1101111)
	wantByHand(t, impl.Op{Kind: impl.CoJump, N: -1048576}, 0b1_0000000000_0_00000000_00000_1101111)
	wantByHand(t, impl.Op{Kind: impl.CoJump, N: 1048574}, 0b0_1111111111_1_11111111_00000_1101111)
	wantByHand(t, impl.Op{Kind: impl.CoJump, D: 1, N: 2048}, 0b0_0000000000_1_00000000_00001_1101111)
	wantByHand(t, impl.Op{Kind: impl.CoJump, D: 1, N: -4096}, 0b1_0000000000_0_11111111_00001_1101111)
	wantByHand(t, impl.Op{Kind: impl.CoCall}, 115)
}

// Each bit of a register stands at a place of its own, whatever else the Op tells.
func TestWordOfEachRegister(t *testing.T) {
	for _, c := range plainCodes {
		for _, what := range []byte("DAB") {
			if !c.tells(what) {
				continue
			}
			for _, o := range c.baseOps() {
				*registerOf(&o, what) = 0
				without := impl.WordOf(o)
				for register := range int64(32) {
					*registerOf(&o, what) = register
					wantByHand(t, o, without|register<<map[byte]int{'D': 7, 'A': 15, 'B': 20}[what])
				}
			}
		}
	}
}

// placesOfN are where the bits of N stand, the lowest first; -1 where one stands nowhere.
func placesOfN(kind int64) []int {
	switch kind {
	case 12, 13, 14, 21:
		return []int{20, 21, 22, 23, 24, 25, 26, 27, 28, 29, 30, 31}
	case 15:
		return []int{7, 8, 9, 10, 11, 25, 26, 27, 28, 29, 30, 31}
	case 16, 17, 18:
		return []int{-1, 8, 9, 10, 11, 25, 26, 27, 28, 29, 30, 7, 31}
	case 19:
		return []int{12, 13, 14, 15, 16, 17, 18, 19, 20, 21, 22, 23, 24, 25, 26, 27, 28, 29, 30, 31}
	case 20:
		return []int{-1, 21, 22, 23, 24, 25, 26, 27, 28, 29, 30, 20, 12, 13, 14, 15, 16, 17, 18, 19, 31}
	}
	return nil
}

// Each bit of N alone; the highest is what makes it less than 0, but of CoUpper.
func TestWordOfEachBitOfN(t *testing.T) {
	for _, c := range plainCodes {
		places := placesOfN(c.kind)
		nothing := impl.WordOf(impl.Op{Kind: c.kind})
		for bit, place := range places {
			n := int64(1) << bit
			if bit == len(places)-1 && c.kind != 19 {
				n = -n
			}
			if place < 0 {
				wantNoOp(t, impl.Op{Kind: c.kind, N: n})
				continue
			}
			wantByHand(t, impl.Op{Kind: c.kind, N: n}, nothing|1<<place)
		}
		if (len(places) > 0) != c.tells('N') {
			t.Fatalf("%d places of N of Kind %d", len(places), c.kind)
		}
	}
}

// oneTurned are the words that differ from w in one bit.
func oneTurned(w int64) []int64 {
	var list []int64
	for bit := range 32 {
		list = append(list, w^1<<bit)
	}
	return list
}

// Each right word with one bit turned has another Op, which has just that word, or none.
func TestOpOfWordsWithOneBitTurned(t *testing.T) {
	some, none := 0, 0
	for _, c := range plainCodes {
		for _, o := range c.baseOps() {
			for _, n := range []int64{0, c.least, c.greatest} {
				o.N = n
				w := impl.WordOf(o)
				wantByHand(t, o, c.word(o))
				for _, turned := range oneTurned(w) {
					got, is := impl.OpOf(turned)
					if is && (got == o || impl.WordOf(got) != turned) || !is && got != (impl.Op{}) {
						t.Fatalf("OpOf of %#x is %+v %v", turned, got, is)
					}
					some, none = some+int(flag(is)), none+int(flag(!is))
					wantAsTold(t, turned)
				}
			}
		}
	}
	if some < 1000 || none < 1000 {
		t.Fatalf("%d have an Op, %d have none: too few to tell", some, none)
	}
}

// CoCall is 115 and nothing else: each other word with these lowest bits has no Op.
func TestOpOfCallAlone(t *testing.T) {
	wantOp(t, impl.Op{Kind: impl.CoCall}, 115)
	for bit := 7; bit < 32; bit++ {
		wantNoWord(t, 115|1<<bit)
	}
	for _, w := range []int64{0xfffff073, 0xffffffff - 128 + 116, 0x73737373, 0x00007373} {
		wantNoWord(t, w)
	}
}

// The highest and the middle bits count where a Kind has some: what no Kind has is no Op.
func TestOpOfWordsOfNoKind(t *testing.T) {
	for _, w := range []int64{
		0, 1, 3, greatestWord, 0x80000000, 0x7fffffff, 0x0000007f, 0x0000001b, 0x0000000b,
		0b0100001_00000_00000_000_00000_0110011, 0b0000001_00000_00000_001_00000_0110011, 0b0100000_00000_00000_101_00000_0110011,
		0b0000010_00000_00000_000_00000_0110011, 0b1000000_00000_00000_000_00000_0110011, 0b0000001_00000_00000_111_00000_0110011,
		0b000000000000_00000_001_00000_0010011, 0b000000000000_00000_010_00000_0010011, 0b000000000000_00000_100_00000_0010011, 0b000000000000_00000_111_00000_0010011,
		0b000000000000_00000_000_00000_0000011, 0b000000000000_00000_001_00000_0000011, 0b000000000000_00000_101_00000_0000011,
		0b0000000_00000_00000_000_00000_0100011, 0b0000000_00000_00000_001_00000_0100011, 0b0000000_00000_00000_110_00000_0100011,
		0b0_000000_00000_00000_010_0000_0_1100011, 0b0_000000_00000_00000_100_0000_0_1100011, 0b0_000000_00000_00000_111_0000_0_1100011,
		0b000000000000_00000_001_00000_1100111, 0b000000000000_00000_100_00000_1100111,
		0b00000000000000000000_00000_0010111, 0b000000000001_00000_000_00000_1110011,
	} {
		if wantAsTold(t, w) {
			t.Fatalf("the rows have an Op of %#x", w)
		}
	}
}

// What is no word has no Op, also where its last 32 bits are a right word.
func TestOpOfNoWords(t *testing.T) {
	for _, w := range noWords {
		wantNoWord(t, w)
	}
	for _, c := range plainCodes {
		for _, o := range c.baseOps() {
			w := impl.WordOf(o)
			wantOp(t, o, c.word(o))
			for _, other := range []int64{w + 1<<32, w - 1<<32, w + 1<<33, w | 1<<62, w | leastInt, -w, ^w | leastInt} {
				wantNoWord(t, other)
			}
		}
	}
	for _, w := range manyNumbers() {
		wantAsTold(t, w)
	}
}

// Nothing is kept from call to call.
func TestOpOfIsItsOwn(t *testing.T) {
	maker := newOpMaker(204)
	var list []int64
	for range 3000 {
		list = append(list, maker.nearly())
	}
	for i, w := range list {
		wantAsTold(t, w)
		wantAsTold(t, list[(i*7+3)%len(list)])
		wantAsTold(t, w)
	}
}
