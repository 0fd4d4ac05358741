package tests

import (
	"fmt"
	"testing"

	"loop.example/g00363/impl"
)

// anOpening is a way to open something, to come to its end and behind it, and how many Steps are come to for each of these.
type anOpening struct {
	open, close, behind         string
	opening, closing, following int64
}

var openings = []anOpening{
	{"block0", "end", "", 1, 1, 0},
	{"const1 if0", "end", "", 2, 1, 0},
	{"const3 if0", "else trap end", "", 2, 1, 0},
	{"const0 if0 trap else", "end", "", 2, 1, 0},
	{"block1", "const9 end", "drop", 1, 2, 1},
	{"const1 if1", "const9 else trap end", "drop", 2, 2, 1},
	{"const0 if1 trap else", "const9 end", "drop", 2, 2, 1},
	{"const8 block0", "end drop", "", 2, 2, 0},
	{"const8 const7 block1", "const9 end drop drop", "drop", 3, 4, 1},
}

// marked has text within so many things of that kind; behind the i-th of them, the innermost first, local 0 has 2^i more.
func (o anOpening) marked(text string, depth int) string {
	for i := range depth {
		text = fmt.Sprintf("%s %s %s %s get0 const%d bin1 set0", o.open, text, o.close, o.behind, 1<<i)
	}
	return text
}

// wantMarks asks what local 0 is in the end where one goes on behind the label so far out, and what that takes beside what was ahead.
func (o anOpening) wantMarks(t *testing.T, text string, depth, out int, ahead int64) {
	t.Helper()
	m := aModule(aFunc(0, 1, 1, o.marked(text, depth)+" get0 end"))
	burnt := int64(depth)*o.opening + ahead
	for i := out; i < depth; i++ {
		if i > out {
			burnt += o.closing
		}
		burnt += o.following + 4
	}
	wantGives(t, m, nil, int64(1<<depth-1<<out), burnt+2)
}

// Jumps to each label there is, with two more on the pile than stay, taken and not taken; a label of width 1 has one of them.
func TestMeantOfJumpsToEachLabel(t *testing.T) {
	for _, o := range openings[:7] {
		for depth := 1; depth <= 6; depth++ {
			for out := range depth {
				o.wantMarks(t, fmt.Sprintf("const4 const5 const6 jump%d", out), depth, out, 4)
				o.wantMarks(t, fmt.Sprintf("const4 const5 const6 const2 jumpif%d drop drop drop", out), depth, out, 5)
				o.wantMarks(t, fmt.Sprintf("const6 const4294967295 jumpif%d drop", out), depth, out, 3)
				o.wantMarks(t, fmt.Sprintf("const6 const0 jumpif%d drop", out), depth, 0, 4+o.closing)
			}
		}
	}
}

// The body's own label is the one behind all that is open: one is at the end then, and comes to no Step more.
func TestMeantOfJumpsToTheEnd(t *testing.T) {
	for _, o := range openings {
		for depth := range 7 {
			opening := int64(depth) * o.opening
			for _, c := range []struct {
				text  string
				value int64
				burnt int64
			}{
				{"const5 const6 jump%d", 6, 3}, {"const6 jump%d", 6, 2}, {"const5 const6 const1 jumpif%d drop drop", 6, 4},
			} {
				wantGives(t, aModule(aFunc(0, 1, 1, o.marked(fmt.Sprintf(c.text, depth), depth)+" get0 end")), nil, c.value, opening+c.burnt)
				wantGives(t, aModule(aFunc(0, 1, 0, o.marked(fmt.Sprintf(c.text, depth), depth)+" end")), nil, 0, opening+c.burnt)
			}
			wantGives(t, aModule(aFunc(0, 1, 1, o.marked("const5 const6 return", depth)+" get0 end")), nil, 6, opening+3)
			wantGives(t, aModule(aFunc(0, 1, 1, o.marked("const6 return", depth)+" get0 end")), nil, 6, opening+2)
			wantGives(t, aModule(aFunc(0, 1, 0, o.marked("const5 const6 return", depth)+" end")), nil, 0, opening+3)
			wantGives(t, aModule(aFunc(0, 1, 0, o.marked("return", depth)+" end")), nil, 0, opening+1)
		}
	}
	// The ninth label is the farthest that a Step can tell; the tenth is left to SpReturn.
	deep := times(9, "block0") + "const5 const6 jump9 " + times(9, "end") + "const1 end"
	wantGives(t, onePile(1, deep), nil, 6, 12)
	deep = times(20, "block0") + "const5 const6 return " + times(20, "end") + "const1 end"
	wantGives(t, onePile(1, deep), nil, 6, 23)
	deep = "const3 " + times(10, "block0") + "const5 const6 jump9 " + times(10, "end") + "end"
	wantGives(t, onePile(1, deep), nil, 3, 15)
	deep = "const3 " + times(11, "block0") + "const5 const6 jump9 " + times(11, "end") + "end"
	wantGives(t, onePile(1, deep), nil, 3, 17)
}

// What stays is the uppermost, on what was there when it was opened; all between is gone.
func TestMeantOfWhatStays(t *testing.T) {
	wantCases(t, 1, []aMeaningCase{
		{"const100 block1 const1 const2 const3 jump0 end bin1 end", 103, 8},
		{"const100 block0 const1 const2 const3 jump0 end end", 100, 7},
		{"const100 const200 block1 const1 const2 jump0 end bin1 bin1 end", 302, 9},
		{"const100 block1 const50 block0 const7 const8 jump1 end end bin1 end", 108, 9},
		{"const100 block1 const50 block1 const7 const8 jump1 end bin1 end bin1 end", 108, 9},
		{"const100 block0 const50 block1 const7 const8 jump1 end bin1 drop end end", 100, 8},
		{"const100 block1 const50 block1 const7 const8 jump0 end bin1 end bin1 end", 158, 11},
		{"const100 block1 const5 const1 jumpif0 drop const6 end bin1 end", 105, 7},
		{"const100 block1 const5 const0 jumpif0 drop const6 end bin1 end", 106, 10},
		{"const100 block1 const4 const5 const1 jumpif0 bin1 end bin1 end", 105, 8},
		{"const100 block1 const4 const5 const0 jumpif0 bin1 end bin1 end", 109, 10},
		{"const100 block0 const4 const5 const1 jumpif0 drop drop end end", 100, 7},
		{"const100 block0 const4 const5 const0 jumpif0 drop drop end end", 100, 10},
		{"const100 const1 if1 const4 const5 jump0 else const6 end bin1 end", 105, 8},
		{"const100 const0 if1 const4 else const5 const6 jump0 end bin1 end", 106, 8},
		{"const100 const1 if0 const4 const5 jump0 end end", 100, 7},
		{"const100 const0 if0 else const4 const5 jump0 end end", 100, 7},
		{"const100 const1 if0 const4 const5 jump0 else trap end end", 100, 7},
		{"const100 const1 if1 const30 block0 const4 const5 jump1 end else const6 end bin1 end", 105, 10},
		{"const100 loop block0 const4 jump0 end end const2 bin1 end", 102, 9},
		{"const1 const2 const3 return end", 3, 4}, {"const1 const2 const3 jump0 end", 3, 4}, {"const1 const2 const3 const1 jumpif0 drop drop end", 3, 5}, {"const1 const2 const3 const0 jumpif0 drop drop end", 1, 8},
		{"const100 block0 const50 const60 return end end", 60, 5}, {"const100 block1 const50 const60 jump1 end bin1 end", 60, 5},
		{"const100 loop const50 const60 return end end", 60, 5}, {"const100 const1 if0 const50 const60 return end end", 60, 6},
		{times(19, "const3") + "const7 return end", 7, 21}, {times(18, "const3") + "block1 const6 const7 jump0 end return end", 7, 23},
	})
	wantCases(t, 0, []aMeaningCase{
		{"const1 const2 return end", 0, 3}, {"const1 block0 const2 return end drop end", 0, 4}, {"const1 jump0 end", 0, 2}, {"const1 const2 jumpif0 drop end", 0, 3},
	})
}

// sumDown adds local 0, less 1 each time, to local 1 until it is 0.
const sumDown = "loop get1 get0 bin1 set1 get0 const1 bin2 tee0 jumpif0 end get1 end"

func TestMeantOfLoopsByHand(t *testing.T) {
	for n := int64(1); n <= 20; n++ {
		wantGives(t, aModule(aFunc(1, 1, 1, sumDown)), []int64{n}, n*(n+1)/2, 1+9*n+3)
	}
	for n := int64(1); n <= 9; n++ {
		// What lies on the pile when one jumps back is gone; what was there when it was opened stays.
		wantGives(t, aModule(aFunc(1, 0, 1, "const100 loop const9 get0 const1 bin2 tee0 jumpif0 drop end end")), []int64{n}, 100, 2+6*n+3)
		wantGives(t, aModule(aFunc(1, 0, 1, "const100 loop const8 const9 get0 const1 bin2 tee0 jumpif0 bin1 drop end end")), []int64{n}, 100, 2+7*n+4)
		wantGives(t, aModule(aFunc(1, 1, 1, "const100 loop get1 const1 bin1 set1 get0 const1 bin2 tee0 zero if0 else jump1 end end get1 bin1 end")), []int64{n}, 100+n, 2+10*n+(n-1)+5)
		// Out of a loop by a block around it.
		wantGives(t, aModule(aFunc(1, 1, 1, "block0 loop get0 zero jumpif1 get1 const2 bin1 set1 get0 const1 bin2 set0 jump0 end end get1 end")), []int64{n}, 2*n, 2+12*n+3+2)
		wantGives(t, aModule(aFunc(1, 1, 1, "block1 loop get1 get0 zero jumpif1 drop get1 const2 bin1 set1 get0 const1 bin2 set0 jump0 end const5 end end")), []int64{n}, 2*n, 2+14*n+4+1)
	}
	wantCases(t, 1, []aMeaningCase{
		{"loop end const1 end", 1, 4}, {"loop const0 jumpif0 end const1 end", 1, 6}, {"block0 loop jump1 end end const1 end", 1, 5}, {"loop loop loop end end end const2 end", 2, 8},
		{"loop const1 return end const2 end", 1, 3}, {"const3 loop block0 loop jump1 end end end end", 3, 7},
	})
}

// A jump back to an SpLoop that is so far out goes on behind that Step itself, as often as it is taken, with all that is within it to be opened anew.
func TestMeantOfJumpsBackToEachLoop(t *testing.T) {
	for out := range 8 {
		for around := range 2 {
			for _, n := range []int64{1, 2, 5} {
				text := "const8 const9 get0 const1 bin2 tee0 jumpif" + fmt.Sprint(out) + " drop drop"
				for range out {
					text = "const6 block0 " + text + " end drop"
				}
				text = "const70 loop get1 const1 bin1 set1 " + text + " end get1 bin1"
				for range around {
					text = "block1 " + text + " end"
				}
				again := 4 + 2*int64(out) + 7
				behind := 2 + 2*int64(out) + 1 + 2 + int64(around) + 1
				wantGives(t, aModule(aFunc(1, 1, 1, text+" end")), []int64{n}, 70+n, int64(around)+2+again*n+behind)
			}
		}
	}
}

// A loop within a loop: a jump to the outer one opens the inner one anew.
func TestMeantOfLoopsInOneAnother(t *testing.T) {
	text := "loop get1 set2 loop get3 const1 bin1 set3 get2 const1 bin2 tee2 jumpif0 end get0 const1 bin2 tee0 jumpif0 end get3 end"
	for a := int64(1); a <= 5; a++ {
		for b := int64(1); b <= 5; b++ {
			wantGives(t, aModule(aFunc(2, 2, 1, text)), []int64{a, b}, a*b, 1+a*(3+9*b+1+5)+3)
		}
	}
	text = "loop get1 set2 loop get3 const1 bin1 set3 get2 const1 bin2 tee2 jumpif0 get0 const1 bin2 tee0 jumpif1 end end get3 end"
	wantGives(t, aModule(aFunc(2, 2, 1, text)), []int64{3, 4}, 12, 1+3*(3+9*4+5)+4)
}

// SpJumpIf takes what it asks, and only 0 is not taken.
func TestMeantOfJumpIfByEachWord(t *testing.T) {
	for _, w := range manyWords() {
		m := onePile(1, fmt.Sprintf("const100 block1 const5 const%d jumpif0 drop const6 end bin1 end", w))
		if w == 0 {
			wantGives(t, m, nil, 106, 10)
		} else {
			wantGives(t, m, nil, 105, 7)
		}
		m = aModule(aFunc(1, 0, 1, "get0 if1 const5 else const6 end end"))
		wantGives(t, m, []int64{w}, 5+flag(w == 0), 5)
		m = aModule(aFunc(1, 0, 1, "get0 zero end"))
		wantGives(t, m, []int64{w}, flag(w == 0), 3)
	}
}

// What one does not come to does nothing and takes nothing, whatever it is.
func TestMeantOfStepsThatAreNotComeTo(t *testing.T) {
	for _, dead := range []string{"trap", "const1 const0 bin4", "bin1 drop", "call0", "loop jump0 end", "const99 load0", "const0 const7 store0", "block1 end", "if0 trap else trap end", "return", "jump0"} {
		wantGives(t, onePile(1, "const5 return "+dead+" end"), nil, 5, 2)
		wantGives(t, onePile(1, "const5 jump0 "+dead+" end"), nil, 5, 2)
		wantGives(t, onePile(1, "const5 block0 jump0 "+dead+" end end"), nil, 5, 4)
		wantGives(t, onePile(1, "const5 const1 if0 jump0 "+dead+" else trap end end"), nil, 5, 5)
		wantMishap(t, onePile(1, "const5 trap "+dead+" end"), nil, impl.OcTrap, 2)
	}
}
