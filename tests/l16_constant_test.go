package tests

import (
	"slices"
	"testing"

	"loop.example/g00363/impl"
)

// doneByHand does CoAddN and CoUpper, one after the other; register 0 stays 0.
func doneByHand(t *testing.T, registers [32]int64, ops []impl.Op) [32]int64 {
	t.Helper()
	for _, o := range ops {
		value := o.N * 4096
		if o.Kind == impl.CoAddN {
			value = ((registers[o.A]+o.N)%(1<<32) + 1<<32) % (1 << 32)
		} else if o.Kind != impl.CoUpper {
			t.Fatalf("%+v is neither CoAddN nor CoUpper", o)
		}
		if o.D != 0 {
			registers[o.D] = value
		}
	}
	return registers
}

func plainConstant(d int64, w int64) []impl.Op {
	signed := plainSigned(w)
	if signed >= -2048 && signed < 2048 {
		return []impl.Op{{Kind: 12, D: d, A: 0, N: signed}}
	}
	upper := (w + 2048) % (1 << 32) / 4096
	ops := []impl.Op{{Kind: 19, D: d, N: upper}}
	last := w % 4096
	if last > 2047 {
		last -= 4096
	}
	if last != 0 {
		ops = append(ops, impl.Op{Kind: 12, D: d, A: d, N: last})
	}
	return ops
}

// wantConstant asks for P16: these very Ops, which make register d the word w, and touch no other.
func wantConstant(t *testing.T, d int64, w int64, want ...impl.Op) {
	t.Helper()
	ops := impl.Constant(d, w)
	if !slices.Equal(ops, want) || !slices.Equal(want, plainConstant(d, w)) {
		t.Fatalf("Constant of %d and %d is %+v, not %+v", d, w, ops, want)
	}
	if len(ops) < 1 || len(ops) > 2 {
		t.Fatalf("Constant of %d and %d has %d Ops", d, w, len(ops))
	}
	for _, o := range ops {
		if back, is := impl.OpOf(impl.WordOf(o)); !impl.OpOk(o) || !is || back != o {
			t.Fatalf("Constant of %d and %d has %+v", d, w, o)
		}
	}
	var before [32]int64
	for register := 1; register < 32; register++ {
		before[register] = int64(register)*123456789%(1<<32) | 1
	}
	after := before
	after[d] = w
	if got := doneByHand(t, before, ops); got != after {
		t.Fatalf("%+v make the registers %v, not %v", ops, got, after)
	}
}

func wantNoConstant(t *testing.T, d int64, w int64) {
	t.Helper()
	if ops := impl.Constant(d, w); len(ops) != 0 {
		t.Fatalf("Constant of %d and %d is %+v", d, w, ops)
	}
}

func addN(d, a, n int64) impl.Op { return impl.Op{Kind: impl.CoAddN, D: d, A: a, N: n} }

func upper(d, n int64) impl.Op { return impl.Op{Kind: impl.CoUpper, D: d, N: n} }

func TestConstantByHand(t *testing.T) {
	for _, d := range []int64{1, 5, 7, 17, 30, 31} {
		wantConstant(t, d, 0, addN(d, 0, 0))
		wantConstant(t, d, 1, addN(d, 0, 1))
		wantConstant(t, d, 2047, addN(d, 0, 2047))
		wantConstant(t, d, 2048, upper(d, 1), addN(d, d, -2048))
		wantConstant(t, d, 2049, upper(d, 1), addN(d, d, -2047))
		wantConstant(t, d, 4095, upper(d, 1), addN(d, d, -1))
		wantConstant(t, d, 4096, upper(d, 1))
		wantConstant(t, d, 4097, upper(d, 1), addN(d, d, 1))
		wantConstant(t, d, 6143, upper(d, 1), addN(d, d, 2047))
		wantConstant(t, d, 6144, upper(d, 2), addN(d, d, -2048))
		wantConstant(t, d, 2147481599, upper(d, 524287), addN(d, d, 2047))
		wantConstant(t, d, 2147481600, upper(d, 524288), addN(d, d, -2048))
		wantConstant(t, d, 2147483647, upper(d, 524288), addN(d, d, -1))
		wantConstant(t, d, 2147483648, upper(d, 524288))
		wantConstant(t, d, 2147483649, upper(d, 524288), addN(d, d, 1))
		wantConstant(t, d, 4294963199, upper(d, 1048575), addN(d, d, -1))
		wantConstant(t, d, 4294963200, upper(d, 1048575))
		wantConstant(t, d, 4294963201, upper(d, 1048575), addN(d, d, 1))
		wantConstant(t, d, 4294965247, upper(d, 1048575), addN(d, d, 2047))
		wantConstant(t, d, 4294965248, addN(d, 0, -2048))
		wantConstant(t, d, 4294967295, addN(d, 0, -1))
	}
}

func TestConstantOfWhatIsOutOfRange(t *testing.T) {
	for _, w := range manyWords() {
		wantNoConstant(t, 0, w)
		for _, d := range noRegisters {
			wantNoConstant(t, d, w)
		}
	}
	for _, w := range append([]int64{-2048, -4096, 1<<32 + 4096, 1<<33 + 2047}, noWords...) {
		for _, d := range append(upTo(0, 31), noRegisters...) {
			wantNoConstant(t, d, w)
		}
	}
}

// All words whose last bits, or whose first, are at an edge; and all that CoAddN alone may make.
func TestConstantOfManyWords(t *testing.T) {
	one, two := 0, 0
	ask := func(d int64, w int64) {
		want := plainConstant(d, w)
		one, two = one+int(flag(len(want) == 1)), two+int(flag(len(want) == 2))
		wantConstant(t, d, w, want...)
	}
	for high := int64(0); high < 1<<20; high = high*3/2 + 1 {
		for _, last := range []int64{0, 1, 2, 1024, 2046, 2047, 2048, 2049, 3072, 4094, 4095} {
			ask(1+(high+last)%31, high<<12|last)
			ask(1+last%31, (1<<20-1-high)<<12|last)
		}
	}
	for w := int64(0); w < 9000; w++ {
		ask(1+w%31, w)
		ask(31-w%31, greatestWord-w)
		ask(1+w%31, (signBit+w-4500)%(1<<32))
	}
	maker := newOpMaker(205)
	for range 20000 {
		ask(1+int64(maker.next(31)), maker.word())
	}
	if one < 4096 || two < 20000 {
		t.Fatalf("%d have one Op, %d have two: too few to tell", one, two)
	}
}

// P21: what Constant answers is new memory each time, with the room behind it.
func TestConstantIsNewMemory(t *testing.T) {
	for _, d := range []int64{0, 1, 17, 31, 32} {
		for _, w := range append(manyWords(), 4096, 2048, 4294963200, -1) {
			first, second := impl.Constant(d, w), impl.Constant(d, w)
			want := slices.Clone(second)
			whole := first[:cap(first)]
			for i := range whole {
				whole[i] = impl.Op{Kind: -77, D: -77, A: -77, B: -77, N: -77}
			}
			if !slices.Equal(second, want) || !slices.Equal(impl.Constant(d, w), want) {
				t.Fatalf("two answers share memory, of %d and %d", d, w)
			}
		}
	}
}

// P21: whatever the two numbers are, Constant answers as the document says.
func TestConstantAtEveryArgument(t *testing.T) {
	for _, d := range slices.Concat(noRegisters, upTo(-3, 34), manyNumbers()) {
		for _, w := range append(manyNumbers(), 2048, 4096, 4294963200) {
			if d > 0 && d < 32 && w >= 0 && w <= greatestWord {
				wantConstant(t, d, w, plainConstant(d, w)...)
			} else {
				wantNoConstant(t, d, w)
			}
		}
	}
}
