package tests

import (
	"fmt"
	"slices"
	"testing"

	"loop.example/g00363/impl"
)

// lowered is what the lines of a Valid module are asked, on the memory with which it begins.
func (q aMeaning) lowered() (aRunning, bool) {
	codes, is := impl.AllLowered(q.m)
	return aRunning{codes: codes, k: q.k, args: q.args, memory: impl.NewMemory(q.m.Data), fuel: maxTicks}, is
}

// wantSameMeaning asks P11: what Lowered made, run, comes to what it means, wherever that is neither OcBad nor OcFuel; and it is done in a few Lines for each Step. It answers the code.
func wantSameMeaning(t *testing.T, q aMeaning) int64 {
	t.Helper()
	want := q.meant()
	r, is := q.lowered()
	if want.Code == impl.OcBad || want.Code == impl.OcFuel {
		return want.Code
	}
	if !is {
		t.Fatalf("%v means %v, and is not lowered", q, want)
	}
	got := r.outcome()
	if !impl.SameOutcome(got, want) || !sameOutcome(got, want) {
		t.Fatalf("%v\nmeans %v\nand its lines %v\ncome to %v", q, want, r, got)
	}
	ran, burnt := r.ran(), q.burnt()
	if ran < 1 && want.Code != impl.OcDeep || ran > 6*burnt+6 {
		t.Fatalf("%v burns %d, and %d Lines are run", q, burnt, ran)
	}
	wantRunning(t, r.fuelled(ran), want, ran)
	return want.Code
}

// wantSameMeanings asks of Func 0 of each text, as all it may be, by these arguments.
func wantSameMeanings(t *testing.T, args []int64, gives int64, texts ...string) {
	t.Helper()
	for _, text := range texts {
		for locals := range int64(4) {
			m := aModule(aFunc(int64(len(args)), locals, gives, text), aFunc(2, 1, 1, "get0 get1 bin2 tee2 end"), aFunc(1, 0, 0, "const4 get0 store0 end"), aFunc(0, 2, 1, "const5 tee1 end"))
			m.Data = manyData(115, 40)
			if !impl.Valid(m) {
				t.Fatalf("%s is not Valid", showPiles(m))
			}
			if code := wantSameMeaning(t, aMeaning{m, 0, args, 3000}); code == impl.OcFuel {
				t.Fatalf("%q by %v does not end", text, args)
			}
		}
	}
}

func TestLinesMeanTheSameByHand(t *testing.T) {
	for _, a := range []int64{0, 1, 2, 7, 61, signBit, greatestWord} {
		args := []int64{a, 3}
		wantSameMeanings(t, args, 0,
			"end", "trap end", "nop get0 drop end", "get0 if0 trap end end", "get0 if0 else trap end end", "get0 jumpif0 trap end",
			"get0 get1 store0 end", "get1 get0 store57 end", "get0 call2 get1 call2 end", "get0 if0 get0 call2 else get1 call2 end end", "block0 get0 jumpif0 const9 call2 end end", "const1 const2 return end", "get0 set1 get1 call2 get1 jumpif0 trap end",
		)
		wantSameMeanings(t, args, 1,
			"get0 end", "get0 get1 bin4 end", "get1 get0 bin4 end", "get0 zero end", "get0 load0 end", "get1 load57 end", "const1 get0 get1 call1 bin1 end", "call3 get0 call3 call1 bin2 end",
			"get0 if1 const5 else const6 end end", "const9 get0 if1 const5 else get1 get0 bin4 end bin2 end", "const9 get0 if0 trap end end",
			"block1 const5 get0 jumpif0 drop const6 end end", "const1 block1 const2 const3 get0 jumpif0 bin2 end bin2 end", "block1 block1 const5 const6 get0 jumpif1 drop end const1 bin1 end end",
			"const8 const9 get0 jumpif0 bin2 end", "const8 get0 jumpif0 drop const9 end", "block0 const7 const8 get0 jumpif1 drop drop end const9 end", "get0 if1 const1 const2 return else const3 end const10 bin1 end",
			"block1 const1 const2 const3 jump0 end end", "const4 block1 const5 block0 const6 jump2 end end bin1 end", "get0 tee1 get1 bin1 end", "const10 set1 get0 get1 bin2 tee0 get0 bin3 end",
			"const1 loop const2 drop end end", "block1 loop const3 get0 jumpif1 drop end const4 end end",
		)
	}
}

// Loops that count, up and down and within one another, with what is below them on the pile.
func TestLinesMeanTheSameInLoops(t *testing.T) {
	for n := int64(1); n <= 40; n += 3 {
		wantSameMeanings(t, []int64{n, 0}, 1,
			"loop get1 get0 bin1 set1 get0 const1 bin2 tee0 jumpif0 end get1 end",
			"const7 loop get1 get0 bin1 set1 get0 const1 bin2 tee0 jumpif0 end get1 bin2 end",
			"block1 loop get0 zero if0 get1 jump2 end get1 const2 bin1 set1 get0 const1 bin2 set0 jump0 end trap end end",
			"block0 loop get1 get0 bin12 zero jumpif1 get1 const1 bin1 set1 jump0 end end get1 end",
			"loop const0 const0 load0 get0 bin1 store0 get0 const1 bin2 tee0 if0 jump1 end end const0 load0 end",
			"loop loop get1 const1 bin1 tee1 const7 bin5 jumpif0 end get0 const1 bin2 tee0 jumpif0 end get1 end",
			"loop get0 get1 call1 call3 bin1 drop get1 call2 get0 const1 bin2 tee0 jumpif0 end const4 load0 end",
		)
	}
}

// Calls: of itself down to the depth, and one more; twice within itself; in a ring; with a mishap deep down.
func TestLinesMeanTheSameInCalls(t *testing.T) {
	codes := map[int64]int{}
	for n := range int64(15) {
		for _, f := range []impl.Func{
			aFunc(1, 0, 1, product), aFunc(1, 2, 1, "get0 const2 bin12 if1 get0 else get0 const1 bin2 call0 get0 const2 bin2 call0 bin1 end end"),
			aFunc(1, 3, 0, chain), aFunc(1, 1, 1, "get0 set1 get0 if0 get0 const1 bin2 call0 drop end get1 end"), aFunc(1, 0, 0, "const4 const4 load0 const1 bin1 store0 get0 if0 get0 const1 bin2 call0 end end"),
			aFunc(1, 0, 0, "get0 if0 get0 const1 bin2 call0 else trap end end"), aFunc(1, 0, 1, "get0 if1 const100 get0 const1 bin2 call0 bin4 else const0 end end"), aFunc(1, 0, 1, "get0 if1 get0 get0 store0 get0 const1 bin2 call0 get0 load55 bin1 else const1 end end"),
		} {
			codes[wantSameMeaning(t, aMeaning{aModule(f), 0, []int64{n}, 3000})]++
		}
		for count := range int64(4) {
			var funcs []impl.Func
			for i := range count + 1 {
				funcs = append(funcs, aFunc(1, i%4, 1, fmt.Sprintf("get0 if1 get0 const1 bin2 call%d const%d bin1 else const0 end end", (i+1)%(count+1), i)))
			}
			for k := range count + 1 {
				codes[wantSameMeaning(t, aMeaning{aModule(funcs...), k, []int64{n}, 3000})]++
			}
		}
	}
	for _, code := range []int64{impl.OcDone, impl.OcZero, impl.OcBounds, impl.OcTrap, impl.OcDeep} {
		if codes[code] < 3 {
			t.Fatalf("%v: too few to tell", codes)
		}
	}
}

// A jump of each sort to each label of two within each other, wide and not, with 0 to 3 more on the pile.
func TestLinesMeanTheSameInJumps(t *testing.T) {
	count := 0
	for _, outer := range []string{"block0", "block1", "loop", "const1 if0", "const1 if1", "const0 if1 const1 else"} {
		for _, inner := range []string{"block0", "block1", "loop", "get0 if0", "get0 if1", "get0 if1 const9 else"} {
			for _, jump := range []string{"jump0", "jump1", "jump2", "get0 jumpif0", "get0 jumpif1", "get0 jumpif2", "return", "get0 if0 jump1 end", "get0 if0 jump2 end", "get0 if0 jump3 end", "get0 if0 return end"} {
				for more := range 4 {
					for _, fill := range []string{"", "drop ", "drop drop ", "drop drop drop ", "const8 ", "get0 if0 trap end "} {
						for _, behind := range []string{"end end end", "end drop end end", "end end drop end", "else const6 end end end", "end else const6 end end", "end const5 end end", "end drop const5 end bin2 end", "end end const4 end"} {
							text := "get0 const1 bin2 set0 " + outer + " " + inner + " " + times(more, "const7") + jump + " " + fill + behind
							count += wantSameWhereValid(t, text)
						}
					}
				}
			}
		}
	}
	if count < 2000 {
		t.Fatalf("%d of them are Valid: too few to tell", count)
	}
}

// wantSameWhereValid answers how many it has asked: by an argument that goes down to 0 in each round.
func wantSameWhereValid(t *testing.T, text string) int {
	t.Helper()
	count := 0
	for gives := range int64(2) {
		m := aModule(aFunc(1, 1, gives, text))
		if !impl.NestOk(m.Funcs[0].Body) || !impl.Valid(m) {
			continue
		}
		for n := range int64(3) {
			if wantSameMeaning(t, aMeaning{m, 0, []int64{n}, 600}) != impl.OcFuel {
				count++
			}
		}
	}
	return count
}

// P11, of many made modules, and each code of them.
func TestLinesMeanTheSameOfManyModules(t *testing.T) {
	codes, stored := map[int64]int{}, 0
	for _, q := range manyMeanings(116, 8000) {
		codes[wantSameMeaning(t, q)]++
		stored += int(flag(!slices.Equal(q.meant().Memory, impl.NewMemory(q.m.Data))))
	}
	for code, least := range map[int64]int{0: 4000, 1: 30, 3: 500, 4: 500, 6: 300} {
		if codes[code] < least {
			t.Fatalf("%v: too few to tell", codes)
		}
	}
	if stored < 300 {
		t.Fatalf("%d of them store: too few to tell", stored)
	}
}

// P11, of all short bodies of these Steps that are Valid.
func TestLinesMeanTheSameOfAllShortBodies(t *testing.T) {
	letters := pileSteps("get0 const5 drop bin4 tee0 block0 block1 loop if0 if1 else end jump0 jump1 jumpif0 jumpif1 return trap call0 store59 load58 zero")
	counts := map[int64]int{}
	bodies := [][]impl.Step{{}}
	for size := range 5 {
		var longer [][]impl.Step
		for _, body := range bodies {
			whole := append(slices.Clone(body), impl.Step{Op: impl.SpEnd})
			for gives := range int64(2) {
				m := aModule(impl.Func{Args: 1, Gives: gives, Body: whole})
				if !impl.NestOk(whole) || !impl.Valid(m) {
					continue
				}
				for arg := range int64(3) {
					counts[wantSameMeaning(t, aMeaning{m, 0, []int64{arg}, 60})]++
				}
			}
			if size == 4 {
				continue
			}
			for _, s := range letters {
				longer = append(longer, append(slices.Clone(body), s))
			}
		}
		bodies = longer
	}
	if counts[0] < 2000 || counts[3] < 20 || counts[4] < 500 || counts[6] < 30 {
		t.Fatalf("%v: too few to tell", counts)
	}
}

// Lines of what has no end have none either, and end by OcFuel.
func TestLinesWithoutEnd(t *testing.T) {
	for _, text := range []string{"loop jump0 end end", "loop const1 jumpif0 end end", "loop loop jump1 end end end", "loop block0 jump1 end end end", "loop call1 jump0 end end"} {
		q := aMeaning{aModule(aFunc(0, 0, 0, text), aFunc(0, 0, 0, "end")), 0, nil, 3000}
		if q.meant().Code != impl.OcFuel {
			t.Fatalf("%v ends", q)
		}
		r, _ := q.lowered()
		wantRunning(t, r, impl.Outcome{Code: impl.OcFuel, Memory: make([]int64, 64)}, maxTicks)
	}
}
