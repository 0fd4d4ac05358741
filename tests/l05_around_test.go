package tests

import (
	"slices"
	"strings"
	"testing"

	"loop.example/g00363/impl"
)

func opensOrDivides(s impl.Step) bool { return s.Op >= 8 && s.Op <= 11 }

// aroundByEnds asks each Step ahead of at whether it is opened and has its SpEnd at at or behind it.
func aroundByEnds(list []impl.Step, ends []int64, at int64) []int64 {
	var open []int64
	for i := at - 1; i >= 0; i-- {
		if impl.Opens(list[i]) && ends[i] >= at {
			open = append(open, i)
		}
	}
	return open
}

// wantClosed asks P5 of Ends: an SpEnd behind each, one each, none of the last; and none ends within another that it does not begin in.
func wantClosed(t *testing.T, list []impl.Step) {
	t.Helper()
	ends := impl.Ends(list)
	if len(ends) != len(list) {
		t.Fatalf("Ends(%v) = %v", list, ends)
	}
	closes := make([]int, len(list))
	for i, end := range ends {
		if opensOrDivides(list[i]) != (end != -1) || end != -1 && (end <= int64(i) || end >= int64(len(list))-1 || list[end].Op != 12) {
			t.Fatalf("Ends(%v)[%d] = %d", list, i, end)
		}
		if impl.Opens(list[i]) {
			closes[end]++
		}
		for j := i + 1; j < int(end); j++ {
			if impl.Opens(list[j]) && impl.Opens(list[i]) && ends[j] >= end {
				t.Fatalf("Ends(%v) = %v: %d and %d are not in one another", list, ends, i, j)
			}
		}
	}
	for i, s := range list {
		if want := flag(s.Op == 12 && i < len(list)-1); int64(closes[i]) != want {
			t.Fatalf("Ends(%v) = %v: %d closes %d", list, ends, i, closes[i])
		}
	}
}

// wantDivided asks P5 of Elses: each SpElse has one SpIf, that of Ends is the same of both, and nothing that is opened between them is still open.
func wantDivided(t *testing.T, list []impl.Step) {
	t.Helper()
	ends, elses := impl.Ends(list), impl.Elses(list)
	if len(elses) != len(list) {
		t.Fatalf("Elses(%v) = %v", list, elses)
	}
	var divided []int64
	for i, place := range elses {
		if place == -1 {
			continue
		}
		if list[i].Op != 10 || place <= int64(i) || list[place].Op != 11 || ends[place] != ends[i] || place >= ends[i] {
			t.Fatalf("Elses(%v)[%d] = %d, Ends %v", list, i, place, ends)
		}
		if open := aroundByEnds(list, ends, place); open[0] != int64(i) {
			t.Fatalf("Elses(%v)[%d] = %d, but within is still %v", list, i, place, open)
		}
		divided = append(divided, place)
	}
	var all []int64
	for i, s := range list {
		if s.Op == 11 {
			all = append(all, int64(i))
		}
	}
	slices.Sort(divided)
	if !slices.Equal(divided, all) {
		t.Fatalf("Elses(%v) = %v, want each of %v once", list, elses, all)
	}
}

func wantAroundAsEnds(t *testing.T, list []impl.Step) {
	t.Helper()
	ends := impl.Ends(list)
	for at := range int64(len(list)) {
		open := impl.Around(list, at)
		if want := aroundByEnds(list, ends, at); !slices.Equal(open, want) {
			t.Fatalf("Around(%v, %d) = %v, want %v", list, at, open, want)
		}
		if slices.Contains(open, at) || !slices.IsSortedFunc(open, func(a, b int64) int { return int(b - a) }) {
			t.Fatalf("Around(%v, %d) = %v: itself, or not the innermost first", list, at, open)
		}
	}
	for i, s := range list {
		if s.Op == 12 && i < len(list)-1 && ends[impl.Around(list, int64(i))[0]] != int64(i) {
			t.Fatalf("Around(%v, %d) begins with what that SpEnd does not close", list, i)
		}
	}
	if open := impl.Around(list, int64(len(list))-1); len(open) != 0 {
		t.Fatalf("Around(%v, the last Step) = %v", list, open)
	}
}

// P5, by what the functions answer alone.
func TestWhatIsOpenedIsClosed(t *testing.T) {
	maker := newBodyMaker(4)
	for i := range 800 {
		list := maker.body(1 + i%80)
		wantClosed(t, list)
		wantDivided(t, list)
		wantAroundAsEnds(t, list)
	}
}

// falling are the numbers from first down to 0.
func falling(first int64) []int64 {
	var list []int64
	for n := first; n >= 0; n-- {
		list = append(list, n)
	}
	return list
}

// 39 in one another, one Step within, and 40 SpEnds are 80.
func TestNestsAsDeepAsCanBe(t *testing.T) {
	for _, opener := range []string{"b", "l", "i"} {
		list := nestSteps(strings.Repeat(opener, 39) + "n" + strings.Repeat(".", 40))
		ends := append(falling(78)[:39], slices.Repeat([]int64{-1}, 41)...)
		var around [][]int64
		for at := range int64(80) {
			around = append(around, falling(min(at-1, 78-at)))
		}
		wantNest(t, list, aNest{ends, slices.Repeat([]int64{-1}, 80), around})
		wantAsNested(t, list)
		wantAsNested(t, slices.Delete(slices.Clone(list), 39, 40))
		wantNoBody(t, nestSteps(strings.Repeat(opener, 40)+strings.Repeat(".", 40)))
		wantNoBody(t, nestSteps(strings.Repeat(opener, 40)+strings.Repeat(".", 41)))
		wantNoBody(t, nestSteps(strings.Repeat(opener, 39)+strings.Repeat(".", 41)))
		wantNoBody(t, nestSteps(strings.Repeat(opener, 80)))
	}
	if got := impl.Around(nestSteps(strings.Repeat("l", 39)+"n"+strings.Repeat(".", 40)), 39); len(got) != 39 || got[0] != 38 || got[38] != 0 {
		t.Fatalf("within 39 there is %v", got)
	}
}

// 26 SpIfs with their SpElse and SpEnd, in one another, are 78.
func TestNestsOfDeepElses(t *testing.T) {
	for _, text := range []string{
		strings.Repeat("i", 26) + strings.Repeat("e.", 26) + "n.",
		strings.Repeat("ie", 26) + strings.Repeat(".", 26) + "n.",
		strings.Repeat("i", 26) + "n" + strings.Repeat("e.", 26) + ".",
	} {
		list := nestSteps(text)
		if len(list) != 80 || !wantAsNested(t, list) {
			t.Fatalf("%q is no body of 80 Steps", text)
		}
		wantClosed(t, list)
		wantDivided(t, list)
		wantAroundAsEnds(t, list)
	}
	list := nestSteps(strings.Repeat("i", 26) + strings.Repeat("e.", 26) + "n.")
	ends, elses := impl.Ends(list), impl.Elses(list)
	for i := range int64(26) {
		if elses[i] != 76-2*i || ends[i] != 77-2*i || ends[76-2*i] != 77-2*i {
			t.Fatalf("SpIf %d has SpElse at %d and SpEnd at %d", i, elses[i], ends[i])
		}
	}
}

// SpElse right behind its SpIf, right ahead of its SpEnd, and at every place between.
func TestNestsOfAnElseAtEveryPlace(t *testing.T) {
	for inner := range 77 {
		for ahead := range inner + 1 {
			list := nestSteps("i" + strings.Repeat("n", ahead) + "e" + strings.Repeat("n", inner-ahead) + "..")
			end, place := int64(inner)+2, int64(ahead)+1
			ends, elses := impl.Ends(list), impl.Elses(list)
			if ends[0] != end || ends[place] != end || elses[0] != place || elses[place] != -1 {
				t.Fatalf("SpElse at %d of %d: Ends %v, Elses %v", place, len(list), ends, elses)
			}
			if got := impl.Around(list, place); len(got) != 1 || got[0] != 0 {
				t.Fatalf("Around of SpElse at %d of %d is %v", place, len(list), got)
			}
		}
	}
}

func TestNestsAtTheLimit(t *testing.T) {
	maker := newBodyMaker(5)
	for _, s := range maker.fillers {
		for _, size := range []int{79, 80, 81, 82} {
			list := append(slices.Repeat([]impl.Step{s}, size-1), impl.Step{Op: 12})
			if impl.NestOk(list) != (size <= 80) || len(impl.Ends(list)) != len(impl.Elses(list)) || (len(impl.Ends(list)) == size) != (size <= 80) {
				t.Fatalf("%d of %v and SpEnd: NestOk is %v", size-1, s, impl.NestOk(list))
			}
		}
	}
	for range 60 {
		list := maker.body(80)
		if !wantAsNested(t, list) {
			t.Fatalf("%v is no body by the grammar", list)
		}
		wantNoBody(t, slices.Insert(slices.Clone(list), maker.next(80), impl.Step{Op: impl.SpNop}))
	}
	for _, size := range []int{81, 82, 83, 160, 161, 256 + 5, 5000} {
		wantNoBody(t, maker.body(size))
		wantNoBody(t, append(slices.Repeat([]impl.Step{{Op: impl.SpNop}}, size-1), impl.Step{Op: 12}))
	}
	wantNoBody(t, nestSteps(strings.Repeat("l", 100000)+strings.Repeat(".", 100001)))
}

// One Step that is not right is enough, in the place of another or as one more, whatever it would do if it were.
func TestNestsOfOneWrong(t *testing.T) {
	for _, wrong := range wrongSteps() {
		wantNoBody(t, []impl.Step{wrong})
		wantNoBody(t, []impl.Step{wrong, {Op: 12}})
		for _, text := range []string{"bie...", "lnib.e...n."} {
			for at := range len(text) {
				list := nestSteps(text)
				list[at] = wrong
				wantNoBody(t, list)
				wantNoBody(t, slices.Insert(nestSteps(text), at, wrong))
			}
			wantNoBody(t, append(nestSteps(text), wrong))
		}
	}
	for _, at := range []int{0, 1, 40, 78, 79} {
		for _, wrong := range []impl.Step{{}, {Op: 12, A: 1}, {Op: 12, A: -1}, {Op: 11, A: 1}, {Op: 9, A: 1}, {Op: 8, A: 2}, {Op: 10, A: 2}, {Op: 20, A: 1}, {Op: 21}} {
			list := nestSteps(strings.Repeat("n", 79) + ".")
			list[at] = wrong
			wantNoBody(t, list)
		}
	}
}

func TestAroundAtNoStep(t *testing.T) {
	maker := newBodyMaker(6)
	for _, list := range [][]impl.Step{nestSteps("."), nestSteps("bie..."), nestSteps("bbbbb......"), maker.body(80)} {
		wantNothingAround(t, list, placesOutside(len(list)))
		for _, at := range append(manyNumbers(), noWords...) {
			if at < 0 || at >= int64(len(list)) {
				wantNothingAround(t, list, []int64{at})
			}
		}
	}
}

func TestNestsOfEmptyAndNil(t *testing.T) {
	for _, list := range [][]impl.Step{nil, {}, make([]impl.Step, 0, 5), nestSteps("bie...")[:0]} {
		wantNoBody(t, list)
		wantNothingAround(t, list, []int64{0})
	}
}

// spoil writes over all of a list, and over the room behind it.
func spoil(list []int64) {
	whole := append(list, 77)
	whole = whole[:cap(whole)]
	for i := range whole {
		whole[i] = -77
	}
	room := list[:cap(list)]
	for i := range room {
		room[i] = -99
	}
}

// P21: an answer is new memory; none shares any with another one.
func TestNestsAreNewMemory(t *testing.T) {
	maker := newBodyMaker(7)
	for i := range 120 {
		list := maker.body(1 + i%80)
		want, _ := plainNest(list)
		ends, elses := impl.Ends(list), impl.Elses(list)
		again, other := impl.Ends(list), impl.Elses(list)
		spoil(ends)
		if !slices.Equal(elses, want.elses) || !slices.Equal(again, want.ends) {
			t.Fatalf("Ends of %v shares memory", list)
		}
		spoil(elses)
		if !slices.Equal(again, want.ends) || !slices.Equal(other, want.elses) {
			t.Fatalf("Elses of %v shares memory", list)
		}
		for at := range int64(len(list)) {
			open, second := impl.Around(list, at), impl.Around(list, at)
			spoil(open)
			if !slices.Equal(second, want.around[at]) {
				t.Fatalf("Around of %v shares memory", list)
			}
		}
		wantNest(t, list, want)
	}
	for _, text := range []string{"", "b.", "e.", "."} {
		list := nestSteps(text)
		spoil(impl.Ends(list)[:0])
		spoil(impl.Elses(list)[:0])
		spoil(impl.Around(list, 0))
		spoil(impl.Around(list, -1))
		wantAsNested(t, list)
	}
}

// P21: an answer stays as it is when the list is another one.
func TestNestsStayWhenTheListChanges(t *testing.T) {
	list := nestSteps("bie...")
	ends, elses, open := impl.Ends(list), impl.Elses(list), impl.Around(list, 2)
	for i := range list {
		list[i] = impl.Step{Op: impl.SpNop}
	}
	if !slices.Equal(ends, []int64{4, 3, 3, -1, -1, -1}) || !slices.Equal(elses, []int64{-1, 2, -1, -1, -1, -1}) || !slices.Equal(open, []int64{1, 0}) {
		t.Fatal("what was answered changes with the list")
	}
	wantNoBody(t, list)
}

// P21: arguments and the room behind them stay, and that room changes no answer: with it, some would be bodies, and some none.
func TestStepsGivenToNestsStay(t *testing.T) {
	maker := newBodyMaker(8)
	lists := [][]impl.Step{nestSteps("b..bb."), nestSteps("ie...."), nestSteps("iee..."), nestSteps("......"), maker.body(80), maker.body(90), wrongSteps()[:30]}
	for i := range 40 {
		lists = append(lists, maker.body(2+i*2))
	}
	for _, whole := range lists {
		kept := slices.Clone(whole)
		for size := range len(whole) + 1 {
			given := whole[:size]
			wantAsNested(t, given)
			if !slices.Equal(whole, kept) {
				t.Fatalf("a list of %d Steps, or the room behind it, is another one", size)
			}
		}
	}
}

// P21: whatever is given, each function answers, and answers the same again.
func TestNestsAnswerAtEveryArgument(t *testing.T) {
	maker := newBodyMaker(9)
	numbers := append(manyNumbers(), noOps...)
	for i := range 6000 {
		list := make([]impl.Step, maker.next(12))
		for j := range list {
			list[j] = impl.Step{Op: int64(8 + maker.next(5))}
			if maker.next(12) == 0 {
				list[j] = impl.Step{Op: numbers[maker.next(len(numbers))], A: numbers[maker.next(len(numbers))]}
			}
		}
		at := numbers[i%len(numbers)]
		is, ends, elses, open := impl.NestOk(list), impl.Ends(list), impl.Elses(list), impl.Around(list, at)
		if is != impl.NestOk(list) || !slices.Equal(ends, impl.Ends(list)) || !slices.Equal(elses, impl.Elses(list)) || !slices.Equal(open, impl.Around(list, at)) {
			t.Fatalf("two answers at %v, %d", list, at)
		}
		wantAsNested(t, list)
	}
}
