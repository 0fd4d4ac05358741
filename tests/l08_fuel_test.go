package tests

import (
	"slices"
	"testing"

	"loop.example/g00363/impl"
)

// Each Step that is come to takes 1, ahead of what it does: with so much of fuel, so many have stored.
func TestMeantStepByStepOfFuel(t *testing.T) {
	m := onePile(0, "const0 const1 store0 const4 const2 store0 const8 const3 store0 end")
	for fuel := range int64(15) {
		memory := make([]int64, 64)
		for i := range int64(3) {
			if fuel >= 3*i+3 {
				memory[4*i] = i + 1
			}
		}
		code := int64(5)
		if fuel >= 10 {
			code = 0
		}
		wantOutcome(t, aMeaning{m, 0, nil, fuel}, impl.Outcome{Code: code, Memory: memory}, min(fuel, 10))
	}
	// Just so many of one Step, and of many within calls.
	for size := range 80 {
		wantGives(t, onePile(0, times(size, "nop")+"end"), nil, 0, int64(size)+1)
		wantGives(t, aModule(aFunc(0, 0, 0, "call1 nop call1 end"), aFunc(0, 0, 0, times(size, "nop")+"end")), nil, 0, 4+2*int64(size+1))
	}
}

func TestMeantAtTheEdgesOfFuel(t *testing.T) {
	end := onePile(0, "end")
	none := impl.Outcome{Code: 7}
	memory := make([]int64, 64)
	wantOutcome(t, aMeaning{end, 0, nil, 0}, impl.Outcome{Code: 5, Memory: memory}, 0)
	wantOutcome(t, aMeaning{end, 0, nil, 1}, impl.Outcome{Memory: memory}, 1)
	wantOutcome(t, aMeaning{end, 0, nil, 2}, impl.Outcome{Memory: memory}, 1)
	wantOutcome(t, aMeaning{end, 0, nil, 3000}, impl.Outcome{Memory: memory}, 1)
	for _, fuel := range []int64{3001, 3002, 4294967296, 4294967297, 4294967296 + 3000, 1 << 40, greatestInt - 1, greatestInt, -1, -2, -3000, -4294967296, -4294967295, leastInt, leastInt + 1} {
		wantOutcome(t, aMeaning{end, 0, nil, fuel}, none, -1)
		wantOutcome(t, aMeaning{onePile(0, "loop jump0 end end"), 0, nil, fuel}, none, -1)
		wantOutcome(t, aMeaning{onePile(0, "trap end"), 0, nil, fuel}, none, -1)
	}
}

// What takes just MaxFuel is done with it; what takes one more cannot be.
func TestMeantOfAllOfMaxFuel(t *testing.T) {
	for nops := range int64(6) {
		m := aModule(aFunc(1, 0, 1, "loop nop get0 const1 bin2 tee0 jumpif0 end "+times(int(nops), "nop")+"const9 end"))
		args := []int64{499}
		if burnt := 1 + 6*499 + 1 + nops + 2; burnt <= 3000 {
			wantGives(t, m, args, 9, burnt)
		} else {
			wantOutcome(t, aMeaning{m, 0, args, 3000}, impl.Outcome{Code: 5, Memory: make([]int64, 64)}, 3000)
		}
	}
}

// A loop that has no end takes all there is, whatever it is; how far it came is in the memory.
func TestMeantOfALoopWithoutEnd(t *testing.T) {
	for _, text := range []string{"loop jump0 end end", "loop const1 jumpif0 end end", "loop loop jump1 end end end", "loop block0 jump1 end end end", "loop call1 jump0 end end"} {
		m := aModule(aFunc(0, 0, 0, text), aFunc(0, 0, 0, "end"))
		for _, fuel := range []int64{0, 1, 2, 3, 7, 100, 2999, 3000} {
			wantOutcome(t, aMeaning{m, 0, nil, fuel}, impl.Outcome{Code: 5, Memory: make([]int64, 64)}, fuel)
		}
	}
	count := onePile(1, "loop const0 const0 load0 const1 bin1 store0 jump0 end const1 end")
	for fuel := range int64(3001) {
		rounds := fuel / 7
		memory := append([]int64{rounds % 256, rounds / 256}, make([]int64, 62)...)
		wantOutcome(t, aMeaning{count, 0, nil, fuel}, impl.Outcome{Code: 5, Memory: memory}, fuel)
	}
}

// manyMeanings are made modules, in which constants are words of every size, each Func with arguments that fit.
func manyMeanings(seed uint64, modules int) []aMeaning {
	maker := newPileMaker(seed)
	words := manyWords()
	var list []aMeaning
	for range modules {
		m, _ := maker.madeModule()
		for _, f := range m.Funcs {
			for i, s := range f.Body {
				if s.Op == impl.SpConst && maker.next(2) == 0 {
					f.Body[i].A = words[maker.next(len(words))]
				}
				if s.Op == impl.SpConst && maker.next(2) == 0 {
					f.Body[i].A = int64(maker.next(50))
				}
				if (s.Op == impl.SpLoad || s.Op == impl.SpStore) && maker.next(8) > 0 {
					f.Body[i].A = int64(maker.next(20))
				}
				// Some constants become locals, so that arguments count.
				if width := f.Args + f.Locals; s.Op == impl.SpConst && width > 0 && maker.next(4) == 0 {
					f.Body[i] = impl.Step{Op: impl.SpGet, A: int64(maker.next(int(width)))}
				}
			}
		}
		for k, f := range m.Funcs {
			var args []int64
			for range f.Args {
				args = append(args, words[maker.next(len(words))])
			}
			list = append(list, aMeaning{m, int64(k), args, 3000})
		}
	}
	return list
}

// P8, of many modules: more fuel than Burnt gives the same, and less is OcFuel; and all of it is as the plain run has it.
func TestMeantOfManyModules(t *testing.T) {
	codes, stored, long := map[int64]int{}, 0, 0
	for _, q := range manyMeanings(83, 6000) {
		want, burnt := wantAsPlain(t, q)
		codes[want.Code]++
		if want.Code != 5 {
			wantEnough(t, q, want, burnt)
		} else if burnt != 3000 {
			t.Fatalf("Burnt of %v is %d, though it is OcFuel", q, burnt)
		}
		stored += int(flag(!slices.Equal(want.Memory, impl.NewMemory(q.m.Data))))
		long += int(flag(burnt > 30))
	}
	for code, least := range map[int64]int{0: 3000, 1: 30, 3: 500, 4: 500, 5: 200, 6: 300} {
		if codes[code] < least {
			t.Fatalf("%v: too few to tell", codes)
		}
	}
	if stored < 300 || long < 1000 {
		t.Fatalf("%d of them store, %d are long: too few to tell", stored, long)
	}
}

// With each fuel from none to what it takes, and some more, one after the other: P8, and what is burnt is never more than fuel.
func TestMeantWithEachFuel(t *testing.T) {
	for _, q := range manyMeanings(84, 250) {
		want, burnt := wantAsPlain(t, q)
		for fuel := range min(burnt+3, 150) {
			got, took := wantAsPlain(t, q.withFuel(fuel))
			if took != min(fuel, burnt) {
				t.Fatalf("Burnt of %v is %d, and with MaxFuel %d", q.withFuel(fuel), took, burnt)
			}
			if more := fuel >= burnt; more && !sameOutcome(got, want) || !more && got.Code != 5 {
				t.Fatalf("%v means %v, and with MaxFuel %v", q.withFuel(fuel), got, want)
			}
		}
	}
}

// All short bodies of these Steps that are Valid, with one argument that is 0 and with one that is not.
func TestMeantOfAllShortBodies(t *testing.T) {
	letters := pileSteps("get0 const5 drop bin2 tee0 block0 block1 loop if0 if1 else end jump0 jump1 jumpif0 return trap call0 store0 load0")
	counts := map[int64]int{}
	bodies := [][]impl.Step{{}}
	for size := range 5 {
		var longer [][]impl.Step
		for _, body := range bodies {
			whole := append(slices.Clone(body), impl.Step{Op: 12})
			for gives := range int64(2) {
				m := aModule(impl.Func{Args: 1, Gives: gives, Body: whole})
				if !impl.NestOk(whole) || !impl.Valid(m) {
					continue
				}
				for arg := range int64(2) {
					for _, fuel := range []int64{4, 60} {
						want, _ := wantAsPlain(t, aMeaning{m, 0, []int64{arg}, fuel})
						counts[want.Code]++
					}
				}
			}
			if size == 4 {
				continue
			}
			for _, s := range letters {
				longer = append(longer, append(slices.Clone(body), s))
			}
		}
		bodies = longer
	}
	if counts[0] < 2000 || counts[4] < 500 || counts[5] < 1000 || counts[6] < 30 {
		t.Fatalf("%v: too few to tell", counts)
	}
}

// The outer shape of a body may be as deep and as long as there can be.
func TestMeantAsDeepAndLongAsCanBe(t *testing.T) {
	wantGives(t, onePile(0, times(39, "block0")+times(39, "end")+"end"), nil, 0, 79)
	wantGives(t, onePile(0, times(39, "loop")+times(39, "end")+"end"), nil, 0, 79)
	wantGives(t, onePile(0, times(39, "block0")+"return "+times(39, "end")+"end"), nil, 0, 40)
	wantGives(t, onePile(1, times(20, "const1")+times(19, "bin1")+"end"), nil, 20, 40)
	wantGives(t, onePile(1, times(20, "const1")+"return end"), nil, 1, 21)
	wantGives(t, onePile(0, times(26, "const1 if0")+times(26, "end")+"end"), nil, 0, 79)
	wantGives(t, onePile(0, times(26, "const0 if0")+times(26, "end")+"end"), nil, 0, 3)
}
