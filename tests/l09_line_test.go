package tests

import (
	"slices"
	"testing"

	"loop.example/g00363/impl"
)

func lnSet(d, n int64) impl.Line  { return impl.Line{Kind: impl.LnSet, D: d, N: n} }
func lnMove(d, a int64) impl.Line { return impl.Line{Kind: impl.LnMove, D: d, A: a} }
func lnZero(d, a int64) impl.Line { return impl.Line{Kind: impl.LnZero, D: d, A: a} }
func lnJump(n int64) impl.Line    { return impl.Line{Kind: impl.LnJump, N: n} }
func lnIf(a, n int64) impl.Line   { return impl.Line{Kind: impl.LnIf, A: a, N: n} }
func lnGive(a int64) impl.Line    { return impl.Line{Kind: impl.LnGive, A: a} }
func lnTrap() impl.Line           { return impl.Line{Kind: impl.LnTrap} }

func lnBin(d, a, b, kind int64) impl.Line {
	return impl.Line{Kind: impl.LnBin, D: d, A: a, B: b, N: kind}
}

func lnLoad(d, a, offset int64) impl.Line {
	return impl.Line{Kind: impl.LnLoad, D: d, A: a, N: offset}
}

func lnStore(a, b, offset int64) impl.Line {
	return impl.Line{Kind: impl.LnStore, A: a, B: b, N: offset}
}

func lnCall(d, n int64, list ...int64) impl.Line {
	return impl.Line{Kind: impl.LnCall, D: d, N: n, List: list}
}

// aLineRule is a row of the document's list of Lines, written out by hand: which of D, A and B it tells, from where to where N is (0 alone where it is not told), and how many boxes List has at most.
type aLineRule struct {
	kind            int64
	d, a, b         bool
	least, greatest int64
	most            int
}

var lineRules = []aLineRule{
	{1, true, false, false, 0, 4294967295, 0}, {2, true, true, false, 0, 0, 0}, {3, true, true, true, 1, 12, 0}, {4, true, true, false, 0, 0, 0},
	{5, false, false, false, 0, 299, 0}, {6, false, true, false, 0, 299, 0}, {7, true, false, false, 0, 3, 3}, {8, true, true, false, 0, 255, 0},
	{9, false, true, true, 0, 255, 0}, {10, false, true, false, 0, 0, 0}, {11, false, false, false, 0, 0, 0},
}

// leastLine has all that is told at its least.
func (r aLineRule) leastLine() impl.Line { return impl.Line{Kind: r.kind, N: r.least} }

// greatestLine has all that is told at its greatest.
func (r aLineRule) greatestLine() impl.Line {
	return impl.Line{Kind: r.kind, D: 39 * flag(r.d), A: 39 * flag(r.a), B: 39 * flag(r.b), N: r.greatest, List: slices.Repeat([]int64{39}, r.most)}
}

// noKinds are numbers that are no Kind; some of them would be one if only their last bits were looked at.
var noKinds = []int64{0, 12, 13, -1, -2, -10, -11, -12, 127, 128, 255, 256, 257, 256 + 11, 65536 + 5, 4294967296, 4294967296 + 1, 4294967296 + 11, -4294967296 + 10, 1<<40 + 7, leastInt, leastInt + 1, leastInt + 11, greatestInt, greatestInt - 1}

// noBoxes are numbers that are no box.
var noBoxes = []int64{-1, -2, -39, -40, 40, 41, 64, 127, 128, 255, 256, 256 + 5, 65536, 4294967296, 4294967296 + 39, -4294967296, leastInt, leastInt + 1, greatestInt, greatestInt - 1}

func plainBoxOk(told bool, n int64) bool { return n == 0 || told && n > 0 && n <= 39 }

// plainLineRule is the zero rule where l is not right.
func plainLineRule(l impl.Line) (aLineRule, bool) {
	if l.Kind < 1 || l.Kind > 11 {
		return aLineRule{}, false
	}
	r := lineRules[l.Kind-1]
	is := plainBoxOk(r.d, l.D) && plainBoxOk(r.a, l.A) && plainBoxOk(r.b, l.B) && r.least <= l.N && l.N <= r.greatest && len(l.List) <= r.most
	for _, box := range l.List {
		is = is && plainBoxOk(true, box)
	}
	if !is {
		return aLineRule{}, false
	}
	return r, true
}

func plainUses(l impl.Line) []int64 {
	r, is := plainLineRule(l)
	var list []int64
	for box := range int64(40) {
		if is && (r.a && l.A == box || r.b && l.B == box || slices.Contains(l.List, box)) {
			list = append(list, box)
		}
	}
	return list
}

func plainSets(l impl.Line) int64 {
	if r, _ := plainLineRule(l); r.d {
		return l.D
	}
	return -1
}

func wantLine(t *testing.T, l impl.Line, uses []int64, sets int64) {
	t.Helper()
	if !impl.LineOk(l) {
		t.Fatalf("LineOk(%v) is false", l)
	}
	if got := impl.Uses(l); !slices.Equal(got, uses) {
		t.Fatalf("Uses(%v) = %v, not %v", l, got, uses)
	}
	if got := impl.Sets(l); got != sets {
		t.Fatalf("Sets(%v) = %d, not %d", l, got, sets)
	}
}

func wantNoLine(t *testing.T, l impl.Line) {
	t.Helper()
	if impl.LineOk(l) {
		t.Fatalf("LineOk(%v) is true", l)
	}
	if got := impl.Uses(l); len(got) != 0 {
		t.Fatalf("Uses(%v) = %v, though it is not right", l, got)
	}
	if got := impl.Sets(l); got != -1 {
		t.Fatalf("Sets(%v) = %d, though it is not right", l, got)
	}
}

// wantAsRuled answers whether it is right.
func wantAsRuled(t *testing.T, l impl.Line) bool {
	t.Helper()
	_, is := plainLineRule(l)
	if is {
		wantLine(t, l, plainUses(l), plainSets(l))
	} else {
		wantNoLine(t, l)
	}
	return is
}

// aField is how a field of a Line is written, and its name.
type aField struct {
	name  string
	write func(l *impl.Line, n int64)
}

var boxFields = []aField{
	{"D", func(l *impl.Line, n int64) { l.D = n }}, {"A", func(l *impl.Line, n int64) { l.A = n }}, {"B", func(l *impl.Line, n int64) { l.B = n }},
}

// told says of D, A and B whether they are.
func (r aLineRule) told() []bool { return []bool{r.d, r.a, r.b} }

func TestConstantsOfChapter9(t *testing.T) {
	kinds := []int64{impl.LnSet, impl.LnMove, impl.LnBin, impl.LnZero, impl.LnJump, impl.LnIf, impl.LnCall, impl.LnLoad, impl.LnStore, impl.LnGive, impl.LnTrap}
	for i, k := range kinds {
		if k != int64(i)+1 {
			t.Errorf("Kind %d is %d", i+1, k)
		}
	}
	if impl.MaxRows != 300 {
		t.Errorf("MaxRows is %d", impl.MaxRows)
	}
}

func TestLinesByHand(t *testing.T) {
	wantLine(t, lnSet(0, 0), nil, 0)
	wantLine(t, lnSet(7, 5), nil, 7)
	wantLine(t, lnSet(39, greatestWord), nil, 39)
	wantLine(t, lnMove(3, 8), []int64{8}, 3)
	wantLine(t, lnMove(4, 4), []int64{4}, 4)
	wantLine(t, lnBin(1, 2, 3, impl.BoSub), []int64{2, 3}, 1)
	wantLine(t, lnBin(1, 3, 2, impl.BoSub), []int64{2, 3}, 1)
	wantLine(t, lnBin(9, 6, 6, impl.BoAdd), []int64{6}, 9)
	wantLine(t, lnBin(5, 5, 5, impl.BoEq), []int64{5}, 5)
	wantLine(t, lnBin(0, 39, 0, impl.BoDiv), []int64{0, 39}, 0)
	wantLine(t, lnZero(0, 1), []int64{1}, 0)
	wantLine(t, lnJump(299), nil, -1)
	wantLine(t, lnIf(0, 299), []int64{0}, -1)
	wantLine(t, lnIf(39, 0), []int64{39}, -1)
	wantLine(t, lnCall(2, 3), nil, 2)
	wantLine(t, lnCall(0, 0, 9), []int64{9}, 0)
	wantLine(t, lnCall(1, 1, 5, 2, 5), []int64{2, 5}, 1)
	wantLine(t, lnCall(8, 2, 10, 9, 8), []int64{8, 9, 10}, 8)
	wantLine(t, lnLoad(6, 7, 255), []int64{7}, 6)
	wantLine(t, lnStore(1, 2, 0), []int64{1, 2}, -1)
	wantLine(t, lnStore(2, 1, 0), []int64{1, 2}, -1)
	wantLine(t, lnStore(3, 3, 9), []int64{3}, -1)
	wantLine(t, lnStore(0, 0, 0), []int64{0}, -1)
	wantLine(t, lnGive(11), []int64{11}, -1)
	wantLine(t, lnTrap(), nil, -1)
	wantNoLine(t, impl.Line{})
	wantNoLine(t, impl.Line{Kind: impl.LnMove, D: 1, A: 2, N: 1})
	wantNoLine(t, impl.Line{Kind: impl.LnBin, D: 1, A: 2, B: 3})
	wantNoLine(t, impl.Line{Kind: impl.LnGive, D: 1, A: 1})
	wantNoLine(t, impl.Line{Kind: impl.LnStore, D: 1, A: 1, B: 1})
	wantNoLine(t, impl.Line{Kind: impl.LnTrap, List: []int64{0}})
}

// Each box that is told is from 0 to 39, whatever the others are.
func TestLineOkAtTheEdgesOfEachBox(t *testing.T) {
	for _, r := range lineRules {
		for _, base := range []impl.Line{r.leastLine(), r.greatestLine()} {
			wantAsRuled(t, base)
			for i, field := range boxFields {
				l := base
				if !r.told()[i] {
					continue
				}
				for box := range int64(40) {
					field.write(&l, box)
					if !wantAsRuled(t, l) {
						t.Fatalf("%s of %v: the rules by hand say no", field.name, l)
					}
				}
				for _, n := range noBoxes {
					field.write(&l, n)
					wantNoLine(t, l)
				}
			}
		}
	}
}

// N is from its least to its greatest, by each Kind, whatever the boxes are.
func TestLineOkAtTheEdgesOfEachNumber(t *testing.T) {
	for _, r := range lineRules {
		for _, l := range []impl.Line{r.leastLine(), r.greatestLine()} {
			for _, n := range []int64{r.least, r.greatest, (r.least + r.greatest) / 2} {
				l.N = n
				wantLine(t, l, plainUses(l), plainSets(l))
			}
			for _, n := range []int64{r.least - 1, r.greatest + 1, r.least - 2, r.greatest + 2, -r.greatest - 1, r.greatest + 256, r.greatest + 4294967296, r.least - 4294967296, leastInt, greatestInt} {
				l.N = n
				wantNoLine(t, l)
			}
		}
	}
}

// What a Kind does not tell is 0, or none.
func TestLineOkOfWhatIsNotTold(t *testing.T) {
	others := append([]int64{1, 5, 38, 39}, noBoxes...)
	for _, r := range lineRules {
		for _, base := range []impl.Line{r.leastLine(), r.greatestLine()} {
			for i, field := range boxFields {
				l := base
				if r.told()[i] {
					continue
				}
				field.write(&l, 0)
				wantLine(t, l, plainUses(l), plainSets(l))
				for _, n := range others {
					field.write(&l, n)
					wantNoLine(t, l)
				}
			}
			for _, n := range others {
				if l := base; r.greatest == 0 {
					l.N = n
					wantNoLine(t, l)
				}
			}
			for _, list := range [][]int64{{0}, {1}, {39}, {-1}, {40}, {0, 0}, {1, 2, 3}} {
				if l := base; r.most == 0 {
					l.List = list
					wantNoLine(t, l)
				}
			}
		}
	}
}

// No List, an empty one, and an empty one with room behind it are alike.
func TestLineOkOfEmptyAndNil(t *testing.T) {
	for _, r := range lineRules {
		for _, list := range [][]int64{nil, {}, make([]int64, 0, 3), {1, 2, 3, 4}, {-1}} {
			l := r.greatestLine()
			l.List = list[:0]
			want := plainUses(impl.Line{Kind: l.Kind, D: l.D, A: l.A, B: l.B, N: l.N})
			wantLine(t, l, want, plainSets(l))
		}
	}
}

func TestLineOkOfSets(t *testing.T) {
	for _, box := range []int64{0, 1, 20, 39} {
		for _, w := range manyWords() {
			wantLine(t, lnSet(box, w), nil, box)
		}
		for _, n := range noWords {
			wantNoLine(t, lnSet(box, n))
		}
	}
}

func TestLineOkOfBins(t *testing.T) {
	for kind := int64(1); kind <= 12; kind++ {
		wantLine(t, lnBin(1, 2, 3, kind), []int64{2, 3}, 1)
		wantLine(t, lnBin(39, 39, 0, kind), []int64{0, 39}, 39)
	}
	for _, n := range []int64{0, 13, -1, -12, 14, 255, 256, 257, 4294967296 + 1, -4294967296 + 12, leastInt, greatestInt} {
		wantNoLine(t, lnBin(1, 2, 3, n))
		wantNoLine(t, lnBin(0, 0, 0, n))
	}
}

func TestLineOkOfJumpsAndIfs(t *testing.T) {
	for place := range int64(300) {
		wantLine(t, lnJump(place), nil, -1)
		wantLine(t, lnIf(place%40, place), []int64{place % 40}, -1)
	}
	for _, n := range []int64{-1, 300, -2, 301, -299, -300, 511, 512, 65536, 4294967296, 4294967295, leastInt, greatestInt} {
		wantNoLine(t, lnJump(n))
		wantNoLine(t, lnIf(0, n))
		wantNoLine(t, lnIf(39, n))
	}
}

func TestLineOkOfCalls(t *testing.T) {
	list := []int64{3, 1, 2, 0, 7, 9}
	for _, d := range []int64{0, 1, 38, 39} {
		for callee := range int64(4) {
			wantLine(t, lnCall(d, callee), nil, d)
			wantLine(t, lnCall(d, callee, list[:1]...), []int64{3}, d)
			wantLine(t, lnCall(d, callee, list[:2]...), []int64{1, 3}, d)
			wantLine(t, lnCall(d, callee, list[:3]...), []int64{1, 2, 3}, d)
			for count := 4; count <= len(list); count++ {
				wantNoLine(t, lnCall(d, callee, list[:count]...))
			}
		}
		for _, callee := range []int64{-1, 4, 5, -4, 255, 256, 259, 4294967296, -4294967296, leastInt, greatestInt} {
			for count := range 4 {
				wantNoLine(t, lnCall(d, callee, list[:count]...))
			}
		}
	}
	for count := range 4 {
		for _, d := range noBoxes {
			wantNoLine(t, lnCall(d, 0, list[:count]...))
		}
		for at := range count {
			boxes := slices.Clone(list[:count])
			for box := range int64(40) {
				boxes[at] = box
				wantLine(t, lnCall(4, 1, boxes...), plainUses(lnCall(4, 1, boxes...)), 4)
			}
			for _, n := range noBoxes {
				boxes[at] = n
				wantNoLine(t, lnCall(4, 1, boxes...))
			}
		}
	}
	// More boxes than may be are too many though they are one and the same.
	for _, count := range []int{4, 5, 40, 1000, 1 << 20} {
		wantNoLine(t, lnCall(0, 0, make([]int64, count)...))
	}
}

// The boxes of a call rise, in whatever order and however often they are told.
func TestUsesOfCallsInEveryOrder(t *testing.T) {
	boxes := []int64{0, 1, 2, 10, 38, 39}
	for _, a := range boxes {
		for _, b := range boxes {
			for _, c := range boxes {
				want := []int64{a, b, c}
				slices.Sort(want)
				wantLine(t, lnCall(b, 2, a, b, c), slices.Compact(want), b)
			}
			want := []int64{min(a, b), max(a, b)}
			if a == b {
				want = []int64{a}
			}
			wantLine(t, lnCall(a, 3, a, b), want, a)
			wantLine(t, lnBin(5, a, b, impl.BoAdd), want, 5)
			wantLine(t, lnBin(b, a, b, impl.BoLess), want, b)
			wantLine(t, lnStore(a, b, 4), want, -1)
		}
	}
}

func TestLineOkOfOffsets(t *testing.T) {
	for offset := range int64(256) {
		wantLine(t, lnLoad(1, 2, offset), []int64{2}, 1)
		wantLine(t, lnStore(1, 2, offset), []int64{1, 2}, -1)
	}
	for _, n := range []int64{-1, 256, -2, 257, -255, -256, 512, 65536, 4294967296, -4294967296, leastInt, greatestInt} {
		wantNoLine(t, lnLoad(1, 2, n))
		wantNoLine(t, lnStore(1, 2, n))
	}
}

func TestLineOkOfNoKinds(t *testing.T) {
	for _, kind := range noKinds {
		wantNoLine(t, impl.Line{Kind: kind})
		for _, r := range lineRules {
			for _, l := range []impl.Line{r.leastLine(), r.greatestLine()} {
				l.Kind = kind
				wantNoLine(t, l)
			}
		}
	}
}

// All Lines of some numbers in each field are held against the rules by hand.
func TestLinesOfAllSmallOnes(t *testing.T) {
	boxes := []int64{-1, 0, 1, 39, 40}
	numbers := []int64{-1, 0, 1, 2, 3, 4, 12, 13, 39, 40, 255, 256, 299, 300, 4294967295, 4294967296}
	lists := [][]int64{nil, {0}, {39}, {40}, {1, 0}, {5, 5, -1}, {39, 7, 39}, {1, 2, 3, 4}}
	right := 0
	for kind := int64(-1); kind <= 13; kind++ {
		for _, d := range boxes {
			for _, a := range boxes {
				for _, b := range boxes {
					for _, n := range numbers {
						for _, list := range lists {
							right += int(flag(wantAsRuled(t, impl.Line{Kind: kind, D: d, A: a, B: b, N: n, List: list})))
						}
					}
				}
			}
		}
	}
	// By Kind: so many boxes by so many of the numbers, and of LnCall by the five lists that are right.
	if want := 3*14 + 9 + 27*5 + 9 + 12 + 3*12 + 3*4*5 + 9*10 + 9*10 + 3 + 1; right != want {
		t.Fatalf("%d are right, not %d", right, want)
	}
}
