package tests

import (
	"fmt"
	"strconv"
	"strings"
	"testing"

	"loop.example/g00363/impl"
)

// aCodeRow is what the document tells of one Kind: the word from its highest bit down, and of which size N is.
// "B4-0" are the bits 4 to 0 of B, and "51/7" is the number 51 in 7 bits.
type aCodeRow struct {
	kind     int64
	layout   string
	least    int64
	greatest int64
	step     int64
}

func threeRow(kind int64, high int, middle int) aCodeRow {
	return aCodeRow{kind, fmt.Sprintf("%d/7 B4-0 A4-0 %d/3 D4-0 51/7", high, middle), 0, 0, 1}
}

func shortRow(kind int64, middle int, low int) aCodeRow {
	return aCodeRow{kind, fmt.Sprintf("N11-0 A4-0 %d/3 D4-0 %d/7", middle, low), -2048, 2047, 1}
}

func nearRow(kind int64, middle int) aCodeRow {
	return aCodeRow{kind, fmt.Sprintf("N12-12 N10-5 B4-0 A4-0 %d/3 N4-1 N11-11 99/7", middle), -4096, 4094, 2}
}

var codeRows = []aCodeRow{
	threeRow(1, 0, 0), threeRow(2, 32, 0), threeRow(3, 1, 0), threeRow(4, 1, 4), threeRow(5, 0, 7), threeRow(6, 0, 6),
	threeRow(7, 0, 4), threeRow(8, 0, 1), threeRow(9, 0, 5), threeRow(10, 0, 2), threeRow(11, 0, 3),
	shortRow(12, 0, 19), shortRow(13, 3, 19), shortRow(14, 2, 3),
	{15, "N11-5 B4-0 A4-0 2/3 N4-0 35/7", -2048, 2047, 1},
	nearRow(16, 0), nearRow(17, 1), nearRow(18, 6),
	{19, "N19-0 D4-0 55/7", 0, 1048575, 1},
	{20, "N20-20 N10-1 N11-11 N19-12 D4-0 111/7", -1048576, 1048574, 2},
	shortRow(21, 0, 103),
	{22, "115/32", 0, 0, 1},
}

// aBit is one bit of a word: bit of what is told, or, where nothing is told, the bit itself.
type aBit struct {
	of  byte
	bit int64
}

// aCode is a row with each of its 32 bits, the lowest first.
type aCode struct {
	aCodeRow
	bits [32]aBit
}

func plainNumber(text string) int64 {
	n, err := strconv.ParseInt(text, 10, 64)
	if err != nil {
		panic(err)
	}
	return n
}

func (r aCodeRow) coded() aCode {
	code, at := aCode{aCodeRow: r}, 32
	put := func(b aBit) {
		at--
		code.bits[at] = b
	}
	for _, told := range strings.Fields(r.layout) {
		if value, count, is := strings.Cut(told, "/"); is {
			for bit := plainNumber(count) - 1; bit >= 0; bit-- {
				put(aBit{0, plainNumber(value) >> bit & 1})
			}
			continue
		}
		from, to, _ := strings.Cut(told[1:], "-")
		for bit := plainNumber(from); bit >= plainNumber(to); bit-- {
			put(aBit{told[0], bit})
		}
	}
	if at != 0 {
		panic(r.layout + " is no word")
	}
	return code
}

func codesOf(rows []aCodeRow) []aCode {
	var codes []aCode
	for i, row := range rows {
		if row.kind != int64(i)+1 {
			panic("there is a Kind too few")
		}
		codes = append(codes, row.coded())
	}
	return codes
}

var plainCodes = codesOf(codeRows)

func (c aCode) tells(what byte) bool { return strings.IndexByte(c.layout, what) >= 0 }

func (c aCode) registerOk(what byte, register int64) bool {
	return register == 0 || c.tells(what) && register > 0 && register < 32
}

func (c aCode) ok(o impl.Op) bool {
	return o.Kind == c.kind && c.registerOk('D', o.D) && c.registerOk('A', o.A) && c.registerOk('B', o.B) &&
		o.N >= c.least && o.N <= c.greatest && o.N%c.step == 0
}

// word puts the word of a right Op together, bit by bit; >> of a number below 0 gives the bits of what Wrap makes of it.
func (c aCode) word(o impl.Op) int64 {
	told := map[byte]int64{'D': o.D, 'A': o.A, 'B': o.B, 'N': o.N}
	w := int64(0)
	for at, b := range c.bits {
		bit := b.bit
		if b.of != 0 {
			bit = told[b.of] >> b.bit & 1
		}
		w += bit << at
	}
	return w
}

// op takes the word apart, and is false where a bit is not as it stands in the row.
func (c aCode) op(w int64) (impl.Op, bool) {
	o := impl.Op{Kind: c.kind}
	for at, b := range c.bits {
		bit := w >> at & 1
		switch b.of {
		case 0:
			if bit != b.bit {
				return impl.Op{}, false
			}
		case 'D':
			o.D += bit << b.bit
		case 'A':
			o.A += bit << b.bit
		case 'B':
			o.B += bit << b.bit
		case 'N':
			o.N += bit << b.bit
		}
	}
	if o.N > c.greatest {
		o.N -= 2 * -c.least
	}
	return o, true
}

func plainOpOk(o impl.Op) bool {
	return o.Kind >= 1 && o.Kind <= 22 && plainCodes[o.Kind-1].ok(o)
}

// plainOpOf asks all Kinds, and answers too how many of them have the word.
func plainOpOf(w int64) (impl.Op, int) {
	found, count := impl.Op{}, 0
	if w < 0 || w > greatestWord {
		return found, 0
	}
	for _, c := range plainCodes {
		if o, is := c.op(w); is {
			found, count = o, count+1
		}
	}
	return found, count
}

// wantOp asks all three of a right Op.
func wantOp(t *testing.T, o impl.Op, want int64) {
	t.Helper()
	if !impl.OpOk(o) {
		t.Fatalf("OpOk says no to %+v", o)
	}
	w := impl.WordOf(o)
	if w != want || w < 0 || w > greatestWord {
		t.Fatalf("WordOf is %#x, not %#x, of %+v", w, want, o)
	}
	if got, is := impl.OpOf(w); !is || got != o {
		t.Fatalf("OpOf of %#x is %+v %v, not %+v", w, got, is, o)
	}
}

func wantNoOp(t *testing.T, o impl.Op) {
	t.Helper()
	if plainOpOk(o) {
		t.Fatalf("the rules by hand say yes to %+v", o)
	}
	if impl.OpOk(o) {
		t.Fatalf("OpOk says yes to %+v", o)
	}
	if w := impl.WordOf(o); w != -1 {
		t.Fatalf("WordOf is %d of %+v", w, o)
	}
}

// wantAsCoded answers whether it is an Op.
func wantAsCoded(t *testing.T, o impl.Op) bool {
	t.Helper()
	is := plainOpOk(o)
	if is {
		wantOp(t, o, plainCodes[o.Kind-1].word(o))
	} else {
		wantNoOp(t, o)
	}
	return is
}

func wantNoWord(t *testing.T, w int64) {
	t.Helper()
	if o, is := impl.OpOf(w); is || o != (impl.Op{}) {
		t.Fatalf("OpOf of %#x is %+v %v", w, o, is)
	}
}

// wantAsTold answers whether the word has an Op.
func wantAsTold(t *testing.T, w int64) bool {
	t.Helper()
	o, count := plainOpOf(w)
	if count > 1 {
		t.Fatalf("%d Kinds have the word %#x", count, w)
	}
	if count == 1 {
		wantOp(t, o, w)
		return true
	}
	wantNoWord(t, w)
	return false
}

// loose is the Op of one Kind that has the bits of w where it tells something, whatever stands in the others.
func (c aCode) loose(w int64) impl.Op {
	for at, b := range c.bits {
		if b.of == 0 {
			w = w&^(1<<at) | b.bit<<at
		}
	}
	o, _ := c.op(w)
	return o
}

// anOpMaker makes Ops and words of a fixed sequence.
type anOpMaker struct{ *aBodyMaker }

func newOpMaker(seed uint64) anOpMaker { return anOpMaker{newBodyMaker(seed)} }

func (m anOpMaker) word() int64 { return int64(m.next(65536))<<16 | int64(m.next(65536)) }

// op is a right one of any Kind: each fourth N is one of the ends.
func (m anOpMaker) op() impl.Op {
	c := plainCodes[m.next(len(plainCodes))]
	o := c.loose(m.word())
	if o.N != 0 {
		switch m.next(8) {
		case 0:
			o.N = c.least
		case 1:
			o.N = c.greatest
		}
	}
	return o
}

// nearly is the word of a right Op in which up to two bits are turned.
func (m anOpMaker) nearly() int64 {
	o := m.op()
	w := plainCodes[o.Kind-1].word(o)
	for range m.next(3) {
		w ^= 1 << m.next(32)
	}
	return w
}

// P16: OpOf of WordOf is the Op, of many made Ops.
func TestOpOfWordOfManyOps(t *testing.T) {
	maker := newOpMaker(201)
	var kinds [23]int
	below, none := 0, 0
	for range 200000 {
		o := maker.op()
		if !wantAsCoded(t, o) {
			t.Fatalf("the rules by hand say no to %+v", o)
		}
		kinds[o.Kind]++
		below += int(flag(o.N < 0))
		none += int(flag(o.N == 0))
	}
	for kind := 1; kind <= 22; kind++ {
		if kinds[kind] < 8000 {
			t.Fatalf("%d Ops are of Kind %d: too few to tell", kinds[kind], kind)
		}
	}
	if below < 20000 || none < 20000 {
		t.Fatalf("%d are below 0, %d are 0: too few to tell", below, none)
	}
}

// P16: where a made word has an Op, that Op has the word; where it has none, no Op has it.
func TestOpOfManyWords(t *testing.T) {
	maker := newOpMaker(202)
	some, none := 0, 0
	for i := range 100000 {
		w := maker.nearly()
		if i%4 == 0 {
			w = maker.word()
		}
		if wantAsTold(t, w) {
			some++
			continue
		}
		none++
		for _, c := range plainCodes {
			if o := c.loose(w); impl.WordOf(o) == w {
				t.Fatalf("OpOf knows no Op of %#x, and WordOf makes it of %+v", w, o)
			}
		}
	}
	if some < 20000 || none < 20000 {
		t.Fatalf("%d words have an Op, %d have none: too few to tell", some, none)
	}
}

// All ways in which the bits can be that no Op turns: the seven highest, the three in the middle, the seven lowest.
func TestOpOfAllFixedBits(t *testing.T) {
	const others = 0x01ff8f80
	some, none := 0, 0
	for _, filling := range []int64{0, others, 0x00a50a80, 0x015a8500} {
		for way := range int64(1 << 17) {
			w := way>>10<<25 | way>>7&7<<12 | way&127 | filling
			if wantAsTold(t, w) {
				some++
			} else {
				none++
			}
		}
	}
	// Of the seven highest and the three in the middle: 11 of low 51, 256 of low 19, 128 each of low 3, 35 and 103, 384 of low 99, all 1024 of 55 and 111, and 115 alone.
	if some != 4*(11+256+128+128+384+1024+1024+128)+1 || none != 4<<17-some {
		t.Fatalf("%d words have an Op, %d have none", some, none)
	}
}
