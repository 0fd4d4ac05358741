package impl

import "math"

const BoAdd = 1
const BoSub = 2
const BoMul = 3
const BoDiv = 4
const BoAnd = 5
const BoOr = 6
const BoXor = 7
const BoShl = 8
const BoShr = 9
const BoEq = 10
const BoLess = 11
const BoBelow = 12
const OcDone = 0
const OcZero = 1
const OcOver = 2
const OcBounds = 3
const OcTrap = 4
const OcFuel = 5
const OcDeep = 6
const OcBad = 7

const wordBits = 32
const wordCount = 1 << wordBits

// A word wraps round by itself, so sums, differences and products need no Wrap of their own.
type word uint32

func (w word) signed() int64 { return int64(int32(w)) }

func (w word) plus(v word) word { return w + v }

func (w word) minus(v word) word { return w - v }

func (w word) times(v word) word { return w * v }

// The quotient is taken in int64, which has room for -2147483648 by -1, so that this one shows by its size.
func (w word) dividedBy(v word) (word, int64) {
	if v == 0 {
		return 0, OcZero
	}
	quotient := w.signed() / v.signed()
	if quotient > math.MaxInt32 {
		return 0, OcOver
	}
	return word(quotient), OcDone
}

func (w word) and(v word) word { return w & v }

func (w word) or(v word) word { return w | v }

func (w word) xor(v word) word { return w ^ v }

// Only the last 5 bits of v tell how far, where Go by itself would move everything out.
func (w word) movedLeft(v word) word { return w << (v % wordBits) }

func (w word) movedRight(v word) word { return w >> (v % wordBits) }

func (w word) same(v word) bool { return w == v }

func (w word) less(v word) bool { return w.signed() < v.signed() }

func (w word) below(v word) bool { return w < v }

// operation is nil where kind is none that makes a word of two words and never fails.
func operation(kind int64) func(word, word) word {
	switch kind {
	case BoAdd:
		return word.plus
	case BoSub:
		return word.minus
	case BoMul:
		return word.times
	case BoAnd:
		return word.and
	case BoOr:
		return word.or
	case BoXor:
		return word.xor
	case BoShl:
		return word.movedLeft
	case BoShr:
		return word.movedRight
	}
	return nil
}

// relation asks how w stands to another word; it is nil where kind is no such question.
func (w word) relation(kind int64) func(word) bool {
	switch kind {
	case BoEq:
		return w.same
	case BoLess:
		return w.less
	case BoBelow:
		return w.below
	}
	return nil
}

// done wants a kind from BoAdd to BoBelow and answers OcBad of any other.
func (w word) done(kind int64, v word) (word, int64) {
	if kind == BoDiv {
		return w.dividedBy(v)
	}
	if operate := operation(kind); operate != nil {
		return operate(w, v), OcDone
	}
	holds := w.relation(kind)
	switch {
	case holds == nil:
		return 0, OcBad
	case holds(v):
		return 1, OcDone
	}
	return 0, OcDone
}

func inRange(n int64, least int64, greatest int64) bool { return least <= n && n <= greatest }

func WordOk(w int64) bool { return inRange(w, 0, wordCount-1) }

func Wrap(n int64) int64 { return int64(word(n)) }

func Signed(w int64) int64 {
	if !WordOk(w) {
		return 0
	}
	return word(w).signed()
}

func Done(kind int64, a int64, b int64) (int64, int64) {
	if !WordOk(a) || !WordOk(b) {
		return 0, OcBad
	}
	value, code := word(a).done(kind, word(b))
	return int64(value), code
}

func Bits(w int64, from int64, count int64) int64 {
	if !WordOk(w) || !inRange(from, 0, wordBits-1) || !inRange(count, 1, wordBits) {
		return 0
	}
	return w >> from & (1<<count - 1)
}

func Extended(n int64, bits int64) int64 {
	if !inRange(bits, 1, wordBits) || !inRange(n, 0, 1<<bits-1) {
		return 0
	}
	if Bits(n, bits-1, 1) == 1 {
		return n - 1<<bits
	}
	return n
}
