package tests

import (
	"slices"
	"testing"

	"loop.example/g00363/impl"
)

// aFlow is what the four functions should answer: Leaders, and of each line Nexts, LiveIn (ahead) and LiveOut (behind).
type aFlow struct {
	leaders              []int64
	nexts, ahead, behind [][]int64
}

// plainNexts asks of each place of right lines whether it may be next.
func plainNexts(list []impl.Line, at int64) []int64 {
	kind, n := list[at].Kind, list[at].N
	var nexts []int64
	for place := range int64(len(list)) {
		goes := (kind == 5 || kind == 6) && place == n
		follows := kind != 5 && kind != 10 && kind != 11 && place == at+1
		if goes || follows {
			nexts = append(nexts, place)
		}
	}
	return nexts
}

// plainLeaders asks of each place of right lines whether a piece begins there.
func plainLeaders(list []impl.Line) []int64 {
	var leaders []int64
	for place := range int64(len(list)) {
		begins := place == 0 || slices.Contains([]int64{5, 6, 10, 11}, list[place-1].Kind)
		for _, l := range list {
			begins = begins || (l.Kind == 5 || l.Kind == 6) && l.N == place
		}
		if begins {
			leaders = append(leaders, place)
		}
	}
	return leaders
}

// aPlainFlow goes back from those who use a box, by who comes to them, and stops at those who set it.
type aPlainFlow struct {
	list  []impl.Line
	froms [][]int64
}

func newPlainFlow(list []impl.Line, nexts [][]int64) aPlainFlow {
	f := aPlainFlow{list, make([][]int64, len(list))}
	for at, places := range nexts {
		for _, next := range places {
			f.froms[next] = append(f.froms[next], int64(at))
		}
	}
	return f
}

// wanted tells of each line whether box is wanted ahead of it.
func (f aPlainFlow) wanted(box int64) []bool {
	is := make([]bool, len(f.list))
	var left []int64
	for at, l := range f.list {
		if slices.Contains(plainUses(l), box) {
			is[at] = true
			left = append(left, int64(at))
		}
	}
	for len(left) > 0 {
		at := left[0]
		left = left[1:]
		for _, from := range f.froms[at] {
			if !is[from] && plainSets(f.list[from]) != box {
				is[from] = true
				left = append(left, from)
			}
		}
	}
	return is
}

// plainFlow is false where they are no right lines.
func plainFlow(list []impl.Line) (aFlow, bool) {
	if !plainLinesOk(list) {
		return aFlow{}, false
	}
	f := aFlow{leaders: plainLeaders(list), ahead: make([][]int64, len(list)), behind: make([][]int64, len(list))}
	for at := range list {
		f.nexts = append(f.nexts, plainNexts(list, int64(at)))
	}
	plain := newPlainFlow(list, f.nexts)
	for box := range int64(40) {
		is := plain.wanted(box)
		for at := range list {
			if is[at] {
				f.ahead[at] = append(f.ahead[at], box)
			}
			if slices.ContainsFunc(f.nexts[at], func(next int64) bool { return is[next] }) {
				f.behind[at] = append(f.behind[at], box)
			}
		}
	}
	return f, true
}

// wantLine asks of one line.
func (f aFlow) wantLine(t *testing.T, list []impl.Line, at int64) {
	t.Helper()
	if got := impl.Nexts(list, at); !slices.Equal(got, f.nexts[at]) {
		t.Fatalf("Nexts of line %d is %v, not %v, of%s", at, got, f.nexts[at], showLines(list))
	}
	if got := impl.LiveIn(list, at); !slices.Equal(got, f.ahead[at]) {
		t.Fatalf("LiveIn of line %d is %v, not %v, of%s", at, got, f.ahead[at], showLines(list))
	}
	if got := impl.LiveOut(list, at); !slices.Equal(got, f.behind[at]) {
		t.Fatalf("LiveOut of line %d is %v, not %v, of%s", at, got, f.behind[at], showLines(list))
	}
}

func wantNoFlowAt(t *testing.T, list []impl.Line, at int64) {
	t.Helper()
	for name, ask := range map[string]func([]impl.Line, int64) []int64{"Nexts": impl.Nexts, "LiveIn": impl.LiveIn, "LiveOut": impl.LiveOut} {
		if got := ask(list, at); len(got) != 0 {
			t.Fatalf("%s at %d is %v, of%s", name, at, got, showLines(list))
		}
	}
}

// noLinesOf are places at which a list has no line.
func noLinesOf(list []impl.Line) []int64 {
	count := int64(len(list))
	places := []int64{-1, -2, -count, count, count + 1, 300, 301, 65536, 4294967296, 4294967297, -4294967296, leastInt, leastInt + 1, greatestInt, greatestInt - 1}
	return slices.DeleteFunc(places, func(at int64) bool { return at >= 0 && at < count })
}

func wantFlow(t *testing.T, list []impl.Line, want aFlow) {
	t.Helper()
	if got := impl.Leaders(list); !slices.Equal(got, want.leaders) {
		t.Fatalf("Leaders is %v, not %v, of%s", got, want.leaders, showLines(list))
	}
	for at := range list {
		want.wantLine(t, list, int64(at))
	}
	for _, at := range noLinesOf(list) {
		wantNoFlowAt(t, list, at)
	}
}

// wantNoFlow asks for nothing from each of the four, wherever it is asked.
func wantNoFlow(t *testing.T, list []impl.Line) {
	t.Helper()
	if got := impl.Leaders(list); len(got) != 0 {
		t.Fatalf("Leaders is %v, of%s", got, showLines(list))
	}
	for _, at := range append(noLinesOf(list), 0, 1, int64(len(list))/2, int64(len(list))-1) {
		wantNoFlowAt(t, list, at)
	}
}

// wantAsFlows answers whether they are right lines.
func wantAsFlows(t *testing.T, list []impl.Line) bool {
	t.Helper()
	want, is := plainFlow(list)
	if is {
		wantFlow(t, list, want)
	} else {
		wantNoFlow(t, list)
	}
	return is
}

// joinedRising are the numbers that are in one of the lists, rising.
func joinedRising(lists ...[]int64) []int64 {
	all := slices.Concat(lists...)
	slices.Sort(all)
	return slices.Compact(all)
}

// wantP12 holds LiveIn of each line against LiveOut of it, and this against LiveIn of its Nexts.
func wantP12(t *testing.T, list []impl.Line) {
	t.Helper()
	var ahead [][]int64
	for at := range list {
		ahead = append(ahead, impl.LiveIn(list, int64(at)))
	}
	for at, l := range list {
		behind := impl.LiveOut(list, int64(at))
		kept := slices.DeleteFunc(slices.Clone(behind), func(box int64) bool { return box == impl.Sets(l) })
		if want := joinedRising(impl.Uses(l), kept); !slices.Equal(ahead[at], want) {
			t.Fatalf("line %d: ahead of it %v are wanted, behind it %v, of%s", at, ahead[at], behind, showLines(list))
		}
		var nexts []int64
		for _, next := range impl.Nexts(list, int64(at)) {
			nexts = joinedRising(nexts, ahead[next])
		}
		if !slices.Equal(behind, nexts) {
			t.Fatalf("line %d: behind it %v are wanted, ahead of its Nexts %v, of%s", at, behind, nexts, showLines(list))
		}
	}
}

// flowing are so many right lines, most of which go on, so that much is wanted from far off.
func (m *aLineMaker) flowing(rows int) []impl.Line {
	m.below = 1 + m.next(40)
	rules := slices.Concat(lineRules[:4], lineRules[5:9])
	if m.next(2) == 0 {
		rules = slices.Concat(rules, lineRules[4:6], lineRules[4:6])
	}
	var list []impl.Line
	for range rows - 1 {
		list = append(list, m.line(rules, rows))
	}
	return append(list, m.line([]aLineRule{lineRules[4], lineRules[9], lineRules[10]}, rows))
}

// goesRound is whether something is wanted ahead of a line that goes back, by one to which it goes back.
func (f aFlow) goesRound() bool {
	for at, nexts := range f.nexts {
		for _, next := range nexts {
			if next <= int64(at) && len(f.ahead[next]) > 0 {
				return true
			}
		}
	}
	return false
}

// P12 of many made lists, line by line as the plain flow has it.
func TestFlowOfManyLines(t *testing.T) {
	maker := newLineMaker(123)
	rounds, greatest, sizes := 0, 0, map[int]int{}
	for i := range 1500 {
		rows := 1 + i%40
		list := maker.lines(rows)
		if i%2 == 0 {
			list = maker.flowing(rows)
		}
		want, is := plainFlow(list)
		if !is {
			t.Fatalf("the rules by hand say no to%s", showLines(list))
		}
		wantFlow(t, list, want)
		wantP12(t, list)
		rounds += int(flag(want.goesRound()))
		for at := range list {
			greatest = max(greatest, len(want.ahead[at]))
			sizes[min(len(want.behind[at]), 5)]++
		}
	}
	if rounds < 700 || greatest < 25 {
		t.Fatalf("in %d lists something goes round, and %d boxes are wanted at most: too few to tell", rounds, greatest)
	}
	for size := range 6 {
		if sizes[size] < 500 {
			t.Fatalf("%v: too few to tell", sizes)
		}
	}
}

// P12 of long lists, up to the limit.
func TestFlowOfLongLists(t *testing.T) {
	maker := newLineMaker(124)
	for _, rows := range []int{100, 200, 255, 256, 257, 298, 299, 300, 300} {
		for _, list := range [][]impl.Line{maker.lines(rows), maker.flowing(rows)} {
			if !wantAsFlows(t, list) {
				t.Fatalf("the rules by hand say no to%s", showLines(list))
			}
			wantP12(t, list)
		}
	}
}

// loopingModules have loops that count, within one another and with what is below them on the pile.
func loopingModules() []impl.Module {
	var list []impl.Module
	for _, text := range []string{
		"loop get1 get0 bin1 set1 get0 const1 bin2 tee0 jumpif0 end get1 end",
		"const7 loop get1 get0 bin1 set1 get0 const1 bin2 tee0 jumpif0 end get1 bin2 end",
		"block1 loop get0 zero if0 get1 jump2 end get1 const2 bin1 set1 get0 const1 bin2 set0 jump0 end trap end end",
		"block0 loop get1 get0 bin12 zero jumpif1 get1 const1 bin1 set1 jump0 end end get1 end",
		"loop const0 const0 load0 get0 bin1 store0 get0 const1 bin2 tee0 if0 jump1 end end const0 load0 end",
		"loop loop get1 const1 bin1 tee1 const7 bin5 jumpif0 end get0 const1 bin2 tee0 jumpif0 end get1 end",
		"loop get0 get1 call1 drop get0 const1 bin2 tee0 jumpif0 end const4 load0 end",
		"const5 loop loop loop get2 jumpif1 get0 jumpif2 get3 jumpif0 end end end get1 bin1 end",
	} {
		for locals := int64(2); locals <= 3; locals++ {
			list = append(list, aModule(aFunc(2, locals, 1, text), aFunc(2, 1, 1, "get0 get1 bin2 tee2 end")))
		}
	}
	return list
}

// P12 of what Lowered made.
func TestFlowOfWhatIsLowered(t *testing.T) {
	maker := newPileMaker(125)
	modules := loopingModules()
	for range 250 {
		m, _ := maker.madeModule()
		modules = append(modules, m)
	}
	lines, rounds := 0, 0
	for _, m := range modules {
		all, is := impl.AllLowered(m)
		if !is {
			t.Fatalf("%s is not lowered", showPiles(m))
		}
		for _, list := range all {
			want, is := plainFlow(list)
			if !is {
				t.Fatalf("the rules by hand say no to%s", showLines(list))
			}
			wantFlow(t, list, want)
			wantP12(t, list)
			lines += len(list)
			rounds += int(flag(want.goesRound()))
		}
	}
	if lines < 5000 || rounds < 20 {
		t.Fatalf("%d lines, and in %d lists something goes round: too few to tell", lines, rounds)
	}
}

// Only arguments are wanted ahead of all lines of what Lowered made: every other local is set, and what is on the pile was put there.
func TestOnlyArgumentsAreWantedAheadOfWhatIsLowered(t *testing.T) {
	maker := newPileMaker(126)
	wanted := 0
	for range 400 {
		m, _ := maker.madeModule()
		for k, f := range m.Funcs {
			for _, box := range impl.LiveIn(impl.Lowered(m, int64(k)), 0) {
				wanted++
				if box >= f.Args {
					t.Fatalf("box %d is wanted ahead of all lines of %s", box, showPile(f))
				}
			}
		}
	}
	if wanted < 100 {
		t.Fatalf("%d arguments are wanted: too few to tell", wanted)
	}
}

// What is not wanted ahead of line 0 may be any word: the lines come to the same.
func TestWhatIsNotWantedMayBeAnyWord(t *testing.T) {
	others := 0
	for i, q := range manyRunnings(127, 3000) {
		q.codes, q.k = [][]impl.Line{q.codes[q.k]}, 0
		q.args = []int64{int64(i), int64(i % 7), int64(i % 60)}
		for j, l := range q.codes[0] {
			if l.Kind == impl.LnCall {
				q.codes[0][j].N = 0
			}
		}
		wanted := impl.LiveIn(q.codes[0], 0)
		other := q
		other.args = slices.Clone(q.args)
		for box := range other.args {
			if !slices.Contains(wanted, int64(box)) {
				other.args[box] = greatestWord - int64(box)
			}
		}
		if slices.Equal(other.args, q.args) {
			continue
		}
		others++
		if got, want := other.outcome(), q.outcome(); !sameOutcome(got, want) {
			t.Fatalf("%v comes to %v\nand %v to %v, though only %v are wanted", q, want, other, got, wanted)
		}
	}
	if others < 1000 {
		t.Fatalf("%d have arguments that are not wanted: too few to tell", others)
	}
}

// All short lists of some lines, right and wrong, are held against the plain flow.
func TestFlowOfAllShortLists(t *testing.T) {
	some := []impl.Line{lnSet(1, 9), lnMove(2, 1), lnMove(1, 2), lnBin(0, 1, 39, 12), lnJump(0), lnJump(1), lnJump(2), lnIf(1, 0), lnIf(1, 1), lnIf(39, 2), lnCall(1, 3, 2, 0, 2), lnZero(2, 2), lnStore(1, 0, 8), lnGive(0), lnGive(2), lnTrap(), lnGive(40)}
	right := 0
	for _, a := range some {
		right += int(flag(wantAsFlows(t, []impl.Line{a})))
		for _, b := range some {
			right += int(flag(wantAsFlows(t, []impl.Line{a, b})))
			for _, c := range some {
				right += int(flag(wantAsFlows(t, []impl.Line{a, b, c})))
			}
		}
	}
	if right < 1000 || right > 3000 {
		t.Fatalf("%d are right: too few or too many to tell", right)
	}
}
