package tests

import (
	"fmt"
	"slices"
	"testing"

	"loop.example/g00363/impl"
)

// SpIf asks for 0 and goes to behind its SpElse, or else to its SpEnd; SpElse goes to its SpEnd.
func TestLoweredOfIfs(t *testing.T) {
	wantLowerings(t, []aLowering{
		{0, "const5 if0 end end", []impl.Line{lnSet(0, 5), lnZero(0, 0), lnIf(0, 3)}},
		{0, "const5 if0 nop end nop end", []impl.Line{lnSet(0, 5), lnZero(0, 0), lnIf(0, 3)}},
		{0, "const5 if0 const6 drop end end", []impl.Line{lnSet(0, 5), lnZero(0, 0), lnIf(0, 4), lnSet(0, 6)}},
		{0, "const5 if0 else end end", []impl.Line{lnSet(0, 5), lnZero(0, 0), lnIf(0, 4), lnJump(4)}},
		{0, "const5 if0 const6 set0 else const7 set0 end end", []impl.Line{lnSet(0, 5), lnZero(0, 0), lnIf(0, 6), lnSet(0, 6), lnMove(-1, 0), lnJump(8), lnSet(0, 7), lnMove(-1, 0)}},
		{0, "const5 if0 else const7 drop end end", []impl.Line{lnSet(0, 5), lnZero(0, 0), lnIf(0, 4), lnJump(5), lnSet(0, 7)}},
		{0, "const5 if0 const6 drop else end end", []impl.Line{lnSet(0, 5), lnZero(0, 0), lnIf(0, 5), lnSet(0, 6), lnJump(5)}},
		{1, "const5 if1 const6 else const7 end end", []impl.Line{lnSet(0, 5), lnZero(0, 0), lnIf(0, 5), lnSet(0, 6), lnJump(6), lnSet(0, 7)}},
		{1, "const4 const5 if1 const6 else const7 end bin1 end", []impl.Line{lnSet(0, 4), lnSet(1, 5), lnZero(1, 1), lnIf(1, 6), lnSet(1, 6), lnJump(7), lnSet(1, 7), lnBin(0, 0, 1, 1)}},
	})
}

// Within one another, in each part.
func TestLoweredOfIfsInOneAnother(t *testing.T) {
	wantLowerings(t, []aLowering{
		{0, "const5 if0 const6 if0 end end end", []impl.Line{lnSet(0, 5), lnZero(0, 0), lnIf(0, 6), lnSet(0, 6), lnZero(0, 0), lnIf(0, 6)}},
		{0, "const5 if0 const6 if0 nop else trap end else const7 if0 trap else trap end end end", []impl.Line{
			lnSet(0, 5), lnZero(0, 0), lnIf(0, 9),
			lnSet(0, 6), lnZero(0, 0), lnIf(0, 7), lnJump(8), lnTrap(), lnJump(14),
			lnSet(0, 7), lnZero(0, 0), lnIf(0, 13), lnTrap(), lnTrap(),
		}},
		{1, "const1 if1 const2 if1 const3 else const4 end else const5 if1 const6 else const7 end end end", []impl.Line{
			lnSet(0, 1), lnZero(0, 0), lnIf(0, 10),
			lnSet(0, 2), lnZero(0, 0), lnIf(0, 8), lnSet(0, 3), lnJump(9), lnSet(0, 4), lnJump(16),
			lnSet(0, 5), lnZero(0, 0), lnIf(0, 15), lnSet(0, 6), lnJump(16), lnSet(0, 7),
		}},
	})
	// As deep as Steps reach: each goes to the one end.
	text, want := "", []impl.Line{}
	for range 26 {
		text += "const1 if0 "
		want = append(want, lnSet(0, 1), lnZero(0, 0), lnIf(0, 78))
	}
	wantLowerings(t, []aLowering{{0, text + times(26, "end") + "end", want}})
}

// Jumps to labels that are not wide: of SpBlock, SpIf and the body to the SpEnd, of SpLoop to behind itself. Nothing is moved, however high one stands.
func TestLoweredOfJumpsWithNothing(t *testing.T) {
	wantLowerings(t, []aLowering{
		{0, "block0 jump0 end end", []impl.Line{lnJump(1)}},
		{0, "block0 const1 const2 jump0 end trap end", []impl.Line{lnSet(0, 1), lnSet(1, 2), lnJump(3), lnTrap()}},
		{0, "block0 const1 jump0 const2 set0 end const3 drop end", []impl.Line{lnSet(0, 1), lnJump(2), lnSet(0, 3)}},
		{0, "loop jump0 end end", []impl.Line{lnJump(0)}},
		{0, "const1 drop loop const2 jump0 end trap end", []impl.Line{lnSet(0, 1), lnSet(0, 2), lnJump(1), lnTrap()}},
		{0, "const1 if0 jump0 end trap end", []impl.Line{lnSet(0, 1), lnZero(0, 0), lnIf(0, 4), lnJump(4), lnTrap()}},
		{0, "const1 if0 jump0 else const2 drop jump0 end trap end", []impl.Line{lnSet(0, 1), lnZero(0, 0), lnIf(0, 4), lnJump(6), lnSet(0, 2), lnJump(6), lnTrap()}},
		{0, "jump0 end", []impl.Line{lnJump(1)}},
		{0, "const1 const2 jump0 end", []impl.Line{lnSet(0, 1), lnSet(1, 2), lnJump(3)}},
		{0, "return end", []impl.Line{lnJump(1)}},
		{0, "const1 const2 return end", []impl.Line{lnSet(0, 1), lnSet(1, 2), lnJump(3)}},
		{0, "block0 return end trap end", []impl.Line{lnJump(2), lnTrap()}},
		{0, "block0 const1 jumpif0 trap end const2 drop end", []impl.Line{lnSet(0, 1), lnIf(0, 3), lnTrap(), lnSet(0, 2)}},
		{0, "block0 const9 const1 jumpif0 drop end end", []impl.Line{lnSet(0, 9), lnSet(1, 1), lnIf(1, 3)}},
		{0, "nop loop const1 jumpif0 end end", []impl.Line{lnSet(0, 1), lnIf(0, 0)}},
		{0, "const1 drop loop const9 const1 jumpif0 drop end end", []impl.Line{lnSet(0, 1), lnSet(0, 9), lnSet(1, 1), lnIf(1, 1)}},
		{0, "const1 if0 const2 jumpif0 end end", []impl.Line{lnSet(0, 1), lnZero(0, 0), lnIf(0, 5), lnSet(0, 2), lnIf(0, 5)}},
		{0, "const1 jumpif0 trap end", []impl.Line{lnSet(0, 1), lnIf(0, 3), lnTrap()}},
		{0, "const8 const9 const1 jumpif0 trap end", []impl.Line{lnSet(0, 8), lnSet(1, 9), lnSet(2, 1), lnIf(2, 5), lnTrap()}},
	})
}

// Jumps to labels that are wide: the uppermost goes along, to the box at the height at which the label was opened; where it is there already nothing is moved.
func TestLoweredOfJumpsWithOne(t *testing.T) {
	wantLowerings(t, []aLowering{
		{1, "block1 const1 jump0 end end", []impl.Line{lnSet(0, 1), lnJump(2)}},
		{1, "block1 const1 const2 jump0 end end", []impl.Line{lnSet(0, 1), lnSet(1, 2), lnMove(0, 1), lnJump(4)}},
		{1, "const9 block1 const1 jump0 end bin1 end", []impl.Line{lnSet(0, 9), lnSet(1, 1), lnJump(3), lnBin(0, 0, 1, 1)}},
		{1, "const9 block1 const1 const2 const3 jump0 end bin1 end", []impl.Line{lnSet(0, 9), lnSet(1, 1), lnSet(2, 2), lnSet(3, 3), lnMove(1, 3), lnJump(6), lnBin(0, 0, 1, 1)}},
		{1, "const1 if1 const2 jump0 else const3 const4 jump0 end end", []impl.Line{lnSet(0, 1), lnZero(0, 0), lnIf(0, 5), lnSet(0, 2), lnJump(9), lnSet(0, 3), lnSet(1, 4), lnMove(0, 1), lnJump(9)}},
		{1, "const8 const1 if1 const2 jump0 else const3 const4 jump0 end bin1 end", []impl.Line{lnSet(0, 8), lnSet(1, 1), lnZero(1, 1), lnIf(1, 6), lnSet(1, 2), lnJump(10), lnSet(1, 3), lnSet(2, 4), lnMove(1, 2), lnJump(10), lnBin(0, 0, 1, 1)}},
		{1, "const1 jump0 end", []impl.Line{lnSet(0, 1), lnJump(2)}},
		{1, "const1 const2 jump0 end", []impl.Line{lnSet(0, 1), lnSet(1, 2), lnMove(0, 1), lnJump(4)}},
		{1, "const1 return end", []impl.Line{lnSet(0, 1), lnJump(2)}},
		{1, "const1 const2 const3 return end", []impl.Line{lnSet(0, 1), lnSet(1, 2), lnSet(2, 3), lnMove(0, 2), lnJump(5)}},
		{1, "const9 loop const1 return end end", []impl.Line{lnSet(0, 9), lnSet(1, 1), lnMove(0, 1), lnJump(4)}},
		{1, "loop const1 jump1 end trap end", []impl.Line{lnSet(0, 1), lnJump(3), lnTrap()}},
		{1, "loop const1 const2 jump0 end trap end", []impl.Line{lnSet(0, 1), lnSet(1, 2), lnJump(0), lnTrap()}},
	})
}

// SpJumpIf to labels that are wide: one line where what goes along stands where it must, else four, and who stays finds all where it was.
func TestLoweredOfJumpIfsWithOne(t *testing.T) {
	wantLowerings(t, []aLowering{
		{1, "block1 const1 const2 jumpif0 end end", []impl.Line{lnSet(0, 1), lnSet(1, 2), lnIf(1, 3)}},
		{1, "block1 const9 const1 const2 jumpif0 drop end end", []impl.Line{lnSet(0, 9), lnSet(1, 1), lnSet(2, 2), lnZero(2, 2), lnIf(2, 7), lnMove(0, 1), lnJump(7)}},
		{1, "const9 block1 const1 const2 jumpif0 end bin1 end", []impl.Line{lnSet(0, 9), lnSet(1, 1), lnSet(2, 2), lnIf(2, 4), lnBin(0, 0, 1, 1)}},
		{1, "const9 block1 const8 const1 const2 jumpif0 bin1 end bin2 end", []impl.Line{lnSet(0, 9), lnSet(1, 8), lnSet(2, 1), lnSet(3, 2), lnZero(3, 3), lnIf(3, 8), lnMove(1, 2), lnJump(9), lnBin(1, 1, 2, 1), lnBin(0, 0, 1, 2)}},
		{1, "const1 if1 const2 const3 jumpif0 else const4 const5 const6 jumpif0 bin1 end end", []impl.Line{
			lnSet(0, 1), lnZero(0, 0), lnIf(0, 7), lnSet(0, 2), lnSet(1, 3), lnIf(1, 15), lnJump(15),
			lnSet(0, 4), lnSet(1, 5), lnSet(2, 6), lnZero(2, 2), lnIf(2, 14), lnMove(0, 1), lnJump(15), lnBin(0, 0, 1, 1),
		}},
		{1, "const1 const2 jumpif0 end", []impl.Line{lnSet(0, 1), lnSet(1, 2), lnIf(1, 3)}},
		{1, "const9 const1 const2 jumpif0 bin1 end", []impl.Line{lnSet(0, 9), lnSet(1, 1), lnSet(2, 2), lnZero(2, 2), lnIf(2, 7), lnMove(0, 1), lnJump(8), lnBin(0, 0, 1, 1)}},
		{1, "block1 const9 block0 const1 const2 jumpif1 trap end end end", []impl.Line{lnSet(0, 9), lnSet(1, 1), lnSet(2, 2), lnZero(2, 2), lnIf(2, 7), lnMove(0, 1), lnJump(8), lnTrap()}},
	})
}

// The body's label from within others, at each depth.
func TestLoweredOfJumpsToTheBody(t *testing.T) {
	for depth := range 10 {
		for gives := range int64(2) {
			for _, opener := range []string{"block0 ", "block1 ", "loop "} {
				open, close := times(depth, opener), times(depth, "end")
				if opener == "block1 " && depth > 0 {
					close += "drop "
				}
				for _, jump := range []string{fmt.Sprintf("jump%d ", depth), "return "} {
					text := "const9 " + open + "const1 const2 " + jump + close + times(1-int(gives), "drop") + "end"
					want := []impl.Line{lnSet(0, 9), lnSet(1, 1), lnSet(2, 2)}
					if gives == 1 {
						want = append(want, lnMove(0, 2))
					}
					want = append(want, lnJump(int64(len(want))+1))
					wantLowerings(t, []aLowering{{gives, text, want}})
				}
			}
		}
	}
}

// aLabel is something that is open, with one more below it than the next one out: its label's width, and the lines from where it begins to where it ends.
type aLabel struct {
	open, close string
	width       int64
	opening     []impl.Line
	closing     []impl.Line
	back        bool
}

// Each label, of each sort within each other one, jumped to from the innermost: what is moved, and where to.
func TestLoweredOfJumpsToEachLabel(t *testing.T) {
	labels := []aLabel{
		{open: "block0 ", close: "end "},
		{open: "block1 ", close: "const7 end drop ", width: 1, closing: []impl.Line{lnSet(0, 7)}},
		{open: "loop ", close: "end ", back: true},
		{open: "const1 if0 ", close: "end ", opening: []impl.Line{lnSet(0, 1), lnZero(0, 0), lnIf(0, -1)}},
		{open: "const1 if0 ", close: "else trap end ", opening: []impl.Line{lnSet(0, 1), lnZero(0, 0), lnIf(0, -2)}, closing: []impl.Line{lnJump(-1), lnTrap()}},
		{open: "const1 if1 ", close: "const7 else trap end drop ", width: 1, opening: []impl.Line{lnSet(0, 1), lnZero(0, 0), lnIf(0, -2)}, closing: []impl.Line{lnSet(0, 7), lnJump(-1), lnTrap()}},
	}
	for i := range 6 * 6 * 6 {
		nest := []aLabel{labels[i%6], labels[i/6%6], labels[i/36]}
		for out := range int64(4) {
			wantLabel(t, nest, out, "jump")
			wantLabel(t, nest, out, "jumpif")
		}
	}
}

// wantLabel has three things in one another, each with one more on the pile below it, and within them two more and what jumps.
func wantLabel(t *testing.T, nest []aLabel, out int64, jump string) {
	t.Helper()
	text, closing := "", ""
	var lines []impl.Line
	begins := make([]int64, len(nest))
	lift := func(l impl.Line, h int64) impl.Line {
		if l.Kind != 5 {
			l.D, l.A = (l.D+h)*flag(lineRules[l.Kind-1].d), (l.A+h)*flag(lineRules[l.Kind-1].a)
		}
		return l
	}
	// A place that is not known yet is -10 and less: ten for each thing, one more for its other part.
	for i, label := range nest {
		h := int64(i) + 1
		text += "const9 " + label.open
		closing = label.close + "drop " + closing
		lines = append(lines, lnSet(h-1, 9))
		for _, l := range label.opening {
			if l.N < 0 {
				l.N -= 10 * h
			}
			lines = append(lines, lift(l, h))
		}
		begins[i] = int64(len(lines))
	}
	text += "const5 const6 "
	lines = append(lines, lnSet(4-1, 5), lnSet(5-1, 6))
	target, base, width := int64(-1), int64(0), int64(0)
	if out < 3 {
		label := nest[2-out]
		base, width = 3-out, label.width
		target = -10*base - 1
		if label.back {
			target = begins[2-out]
		}
	}
	top := int64(4)
	if jump == "jump" {
		if width == 1 && top != base {
			lines = append(lines, lnMove(base, top))
		}
		text += fmt.Sprintf("jump%d ", out)
		lines = append(lines, lnJump(target))
	} else {
		text += fmt.Sprintf("const8 jumpif%d trap ", out)
		lines = append(lines, lnSet(5, 8))
		if width == 1 && top != base {
			follows := int64(len(lines)) + 4
			lines = append(lines, lnZero(5, 5), lnIf(5, follows), lnMove(base, top), lnJump(target))
		} else {
			lines = append(lines, lnIf(5, target))
		}
		lines = append(lines, lnTrap())
	}
	lines = closedLabels(lines, nest)
	wantLowerings(t, []aLowering{{0, text + closing + "end", lines}})
}

// closedLabels adds what closes each of nest, the innermost first, and fills in the places that are known then. One does not come to the first closing, since what is ahead of it leaves.
func closedLabels(lines []impl.Line, nest []aLabel) []impl.Line {
	places := map[int64]int64{}
	for i := len(nest) - 1; i >= 0; i-- {
		h := int64(i) + 1
		for _, l := range nest[i].closing {
			if i == len(nest)-1 && l.Kind != 11 {
				continue
			}
			switch l.Kind {
			case 1:
				l.D += h
			case 5:
				l.N -= 10 * h
			case 11:
				places[-10*h-2] = int64(len(lines))
			}
			lines = append(lines, l)
		}
		places[-10*h-1] = int64(len(lines))
	}
	places[-1] = int64(len(lines))
	list := slices.Clone(lines)
	for i, l := range list {
		if l.Kind == 5 || l.Kind == 6 {
			if place, is := places[l.N]; is {
				list[i].N = place
			}
		}
	}
	return list
}

// Of Steps to which one does not come there is nothing, and a line that goes to one of them goes to what follows.
func TestLoweredWhereOneDoesNotCome(t *testing.T) {
	dead := "const1 get0 set0 zero drop const1 const2 bin1 load0 nop call1 call0 "
	dead += "block1 const1 jump0 end loop jump0 end if1 const1 else const2 end const1 jumpif0 trap return "
	for _, leave := range []struct {
		text string
		line impl.Line
	}{{"trap ", lnTrap()}, {"jump0 ", lnJump(1)}, {"return ", lnJump(1)}} {
		wantLowerings(t, []aLowering{{0, leave.text + "end", []impl.Line{leave.line}}, {0, leave.text + dead + "end", []impl.Line{leave.line}}}, aFunc(0, 0, 1, "const1 end"))
		// Behind what is closed one comes again.
		behind := []impl.Line{leave.line, lnSet(0, 5)}
		if leave.text == "return " {
			behind[0] = lnJump(2)
		}
		wantLowerings(t, []aLowering{
			{0, "block0 " + leave.text + "end const5 drop end", behind},
			{0, "block0 " + leave.text + dead + "end const5 drop end", behind},
			{0, "block0 " + leave.text + "block0 const1 if0 trap else trap end end end const5 drop end", behind},
		}, aFunc(0, 0, 1, "const1 end"))
	}
	wantLowerings(t, []aLowering{
		// To an SpEnd and behind an SpElse to which one does not come, or behind which there is nothing.
		{0, "block0 const1 jumpif0 trap nop end end", []impl.Line{lnSet(0, 1), lnIf(0, 3), lnTrap()}},
		{0, "const1 if0 trap end trap end", []impl.Line{lnSet(0, 1), lnZero(0, 0), lnIf(0, 4), lnTrap(), lnTrap()}},
		{0, "const1 if0 trap else end end", []impl.Line{lnSet(0, 1), lnZero(0, 0), lnIf(0, 4), lnTrap()}},
		{0, "const1 if0 trap const2 drop else trap const3 drop end end", []impl.Line{lnSet(0, 1), lnZero(0, 0), lnIf(0, 4), lnTrap(), lnTrap()}},
		{0, "const1 if0 nop else trap end const2 drop end", []impl.Line{lnSet(0, 1), lnZero(0, 0), lnIf(0, 4), lnJump(5), lnTrap(), lnSet(0, 2)}},
		{1, "block1 const1 jump0 const2 end end", []impl.Line{lnSet(0, 1), lnJump(2)}},
		{1, "block1 block1 const1 jump1 end trap end end", []impl.Line{lnSet(0, 1), lnJump(3), lnTrap()}},
		{1, "block1 trap end end", []impl.Line{lnTrap()}},
		{0, "block0 block0 jump1 jump0 end jump0 end trap end", []impl.Line{lnJump(2), lnJump(2), lnTrap()}},
		{0, "trap block0 block0 jump1 end trap end const1 drop end", []impl.Line{lnTrap()}},
		{0, "trap const1 if0 const2 drop else const3 drop end const4 drop end", []impl.Line{lnTrap()}},
		{0, "loop trap jump0 end const4 drop end", []impl.Line{lnTrap(), lnSet(0, 4)}},
	})
}
