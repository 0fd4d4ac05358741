package tests

import (
	"slices"
	"testing"

	"loop.example/g00363/impl"
)

// noRegisters are numbers of which none is a register.
var noRegisters = []int64{-1, -2, -32, 32, 33, 63, 64, 256, 1 << 32, 1<<32 + 5, -1 << 32, leastInt, leastInt + 5, greatestInt, greatestInt - 1}

// fullOp has something else than 0 in all that its Kind tells.
func (c aCode) fullOp() impl.Op {
	o := impl.Op{Kind: c.kind, N: c.greatest}
	for _, what := range []byte("DAB") {
		if c.tells(what) {
			*registerOf(&o, what) = int64(what - 'A' + 5)
		}
	}
	return o
}

func registerOf(o *impl.Op, what byte) *int64 {
	switch what {
	case 'D':
		return &o.D
	case 'A':
		return &o.A
	}
	return &o.B
}

// baseOps are the Op of a Kind that has something everywhere, and the one that has nothing.
func (c aCode) baseOps() []impl.Op { return []impl.Op{{Kind: c.kind}, c.fullOp()} }

func TestOpOkOfEachKind(t *testing.T) {
	for _, c := range plainCodes {
		for _, o := range c.baseOps() {
			if !wantAsCoded(t, o) {
				t.Fatalf("the rules by hand say no to %+v", o)
			}
		}
	}
}

// What is right of a Kind is not right of another that tells less, nor of what is no Kind.
func TestOpOkOfOtherKinds(t *testing.T) {
	for _, c := range plainCodes {
		for _, o := range c.baseOps() {
			for _, kind := range []int64{0, -1, -2, -22, 23, 24, 32, 44, 255, 256, 257, 278, 1<<32 + 1, 1<<32 + 22, -1<<32 + 1, leastInt, leastInt + 1, leastInt + 12, greatestInt, greatestInt - 1} {
				o.Kind = kind
				wantNoOp(t, o)
			}
			for kind := int64(1); kind < 23; kind++ {
				o.Kind = kind
				wantAsCoded(t, o)
			}
		}
	}
	wantNoOp(t, impl.Op{})
}

// Each register that a Kind tells is from 0 to 31, and each that it does not tell is 0.
func TestOpOkOfEachRegister(t *testing.T) {
	right := 0
	for _, c := range plainCodes {
		for _, what := range []byte("DAB") {
			for _, o := range c.baseOps() {
				for _, register := range noRegisters {
					*registerOf(&o, what) = register
					wantNoOp(t, o)
				}
				for register := range int64(32) {
					*registerOf(&o, what) = register
					right += int(flag(wantAsCoded(t, o)))
				}
			}
		}
	}
	// 11 Kinds tell three registers, 8 two, and 2 one: each has 32 of them; of all the others only 0 is right.
	told := 11*3 + 8*2 + 2
	if right != 2*(told*32+(22*3-told)) {
		t.Fatalf("%d are right", right)
	}
}

// What one Kind does not tell is 0: each of them by hand.
func TestOpOkWhereNothingIsTold(t *testing.T) {
	for kind := int64(1); kind <= 11; kind++ {
		for _, n := range []int64{1, -1, 2, 51, 2048, -2048, 1 << 32, leastInt, greatestInt} {
			wantNoOp(t, impl.Op{Kind: kind, D: 1, A: 2, B: 3, N: n})
			wantNoOp(t, impl.Op{Kind: kind, N: n})
		}
	}
	for _, kind := range []int64{12, 13, 14, 19, 20, 21, 22} {
		for _, b := range []int64{1, 31, 32, -1} {
			wantNoOp(t, impl.Op{Kind: kind, B: b})
		}
	}
	for _, kind := range []int64{15, 16, 17, 18, 22} {
		for _, d := range []int64{1, 31, 32, -1} {
			wantNoOp(t, impl.Op{Kind: kind, D: d, A: 2, B: 3})
			wantNoOp(t, impl.Op{Kind: kind, D: d})
		}
	}
	for _, kind := range []int64{19, 20, 22} {
		for _, a := range []int64{1, 31, 32, -1} {
			wantNoOp(t, impl.Op{Kind: kind, D: 2, A: a})
			wantNoOp(t, impl.Op{Kind: kind, A: a})
		}
	}
	for _, n := range []int64{1, 2, -1, 115, 4096, leastInt, greatestInt} {
		wantNoOp(t, impl.Op{Kind: 22, N: n})
	}
}

// N at both ends, and one beyond each; odd ones where it must be even.
func TestOpOkOfN(t *testing.T) {
	ends := [23][2]int64{}
	for kind := 12; kind <= 21; kind++ {
		ends[kind] = [2]int64{-2048, 2047}
	}
	ends[16], ends[17], ends[18] = [2]int64{-4096, 4094}, [2]int64{-4096, 4094}, [2]int64{-4096, 4094}
	ends[19], ends[20] = [2]int64{0, 1048575}, [2]int64{-1048576, 1048574}
	for kind := int64(12); kind <= 21; kind++ {
		least, greatest := ends[kind][0], ends[kind][1]
		even := kind >= 16 && kind <= 18 || kind == 20
		for _, n := range []int64{least, least + 2, greatest - 2, greatest, 0, 2, 1024} {
			wantIs(t, impl.Op{Kind: kind, N: n}, true)
		}
		for _, n := range []int64{least + 1, greatest - 1, 1, 3, 1023} {
			wantIs(t, impl.Op{Kind: kind, N: n}, !even)
		}
		for _, n := range []int64{-1, -3, -1023} {
			wantIs(t, impl.Op{Kind: kind, N: n}, !even && least < 0)
		}
		for _, n := range []int64{-2, -1024} {
			wantIs(t, impl.Op{Kind: kind, N: n}, least < 0)
		}
		for _, n := range []int64{least - 1, least - 2, greatest + 1, greatest + 2, 2*greatest + 2, 2*least - 2, 1 << 21, -1 << 21, signBit, -signBit, greatestWord, 1 << 32, 1<<32 + 2, -1 << 32, -1<<32 + 2, leastInt, leastInt + 2, greatestInt, greatestInt - 1} {
			wantIs(t, impl.Op{Kind: kind, N: n}, false)
		}
	}
}

func wantIs(t *testing.T, o impl.Op, want bool) {
	t.Helper()
	if wantAsCoded(t, o) != want {
		t.Fatalf("the rules by hand say %v to %+v", !want, o)
	}
}

// All N around all that a Kind has, with some registers; also those of it that are as a word what a right one is.
func TestOpOkOfAllN(t *testing.T) {
	for _, c := range plainCodes {
		if c.kind == 19 || c.kind == 20 {
			continue
		}
		right := 0
		for n := int64(-9000); n < 9000; n++ {
			o := c.fullOp()
			o.N = n
			right += int(flag(wantAsCoded(t, o)))
			o.N = n + 1<<32
			wantNoOp(t, o)
		}
		if int64(right) != (c.greatest-c.least)/c.step+1 {
			t.Fatalf("%d are right of Kind %d", right, c.kind)
		}
	}
}

// All N that CoUpper has, and all that CoJump has.
func TestOpOkOfAllFarN(t *testing.T) {
	for _, kind := range []int64{19, 20} {
		c := plainCodes[kind-1]
		right := int64(0)
		for n := c.least - 5; n <= c.greatest+5; n++ {
			o := impl.Op{Kind: kind, D: n & 31, N: n}
			is := impl.OpOk(o)
			right += flag(is)
			if w := impl.WordOf(o); is && w != c.word(o) || !is && w != -1 {
				t.Fatalf("WordOf is %#x of %+v", w, o)
			}
			if is != c.ok(o) {
				t.Fatalf("OpOk says %v to %+v", is, o)
			}
		}
		if right != (c.greatest-c.least)/c.step+1 {
			t.Fatalf("%d are right of Kind %d", right, kind)
		}
	}
}

// P21: whatever the five numbers are, OpOk and WordOf answer as the document says.
func TestOpOkAtEveryArgument(t *testing.T) {
	maker := newOpMaker(203)
	numbers := slices.Concat(manyNumbers(), noRegisters, upTo(-3, 34), []int64{-2048, -2049, 2047, 2048, 4094, 4095, 4096, -4096, -4097, -4098})
	right, wrong := 0, 0
	for i := range 100000 {
		o := maker.op()
		for range i % 4 {
			*[]*int64{&o.Kind, &o.D, &o.A, &o.B, &o.N}[maker.next(5)] = numbers[maker.next(len(numbers))]
		}
		if wantAsCoded(t, o) {
			right++
		} else {
			wrong++
		}
	}
	for range 20000 {
		any := func() int64 { return numbers[maker.next(len(numbers))] }
		wantAsCoded(t, impl.Op{Kind: any(), D: any(), A: any(), B: any(), N: any()})
	}
	if right < 20000 || wrong < 20000 {
		t.Fatalf("%d are Ops, %d are none: too few to tell", right, wrong)
	}
}
