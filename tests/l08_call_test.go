package tests

import (
	"fmt"
	"slices"
	"testing"

	"loop.example/g00363/impl"
)

// digits gives its arguments as digits of one number, the first one ahead; 7 where there are none.
func digits(args int64) string {
	text := "get0"
	if args == 0 {
		text = "const7"
	}
	for i := int64(1); i < args; i++ {
		text += fmt.Sprintf(" const10 bin3 get%d bin1", i)
	}
	return text + " end"
}

// A call of another Func, with 0 to 3 arguments in their order; what is below them stays.
func TestMeantOfCallsWithEachCountOfArguments(t *testing.T) {
	want := []int64{7, 1, 12, 123}
	for args := range int64(4) {
		text := ""
		for i := range args {
			text += fmt.Sprintf("const%d ", i+1)
		}
		callee := aFunc(args, 0, 1, digits(args))
		size := int64(len(callee.Body))
		wantGives(t, aModule(aFunc(0, 0, 1, text+"call1 end"), callee), nil, want[args], args+2+size)
		wantGives(t, aModule(aFunc(0, 0, 1, "const1000 const500 "+text+"call1 bin1 bin1 end"), callee), nil, 1500+want[args], args+6+size)
		wantGives(t, firstOfTwo(callee), []int64{1, 2, 3}[:args], want[args], size)
	}
}

// firstOfTwo is a module in which another Func stands behind f.
func firstOfTwo(f impl.Func) impl.Module { return aModule(f, aFunc(3, 3, 0, "trap end")) }

// A Func that gives none puts nothing, and what it leaves on its pile is not the caller's.
func TestMeantOfCallsThatGive(t *testing.T) {
	for args := range int64(4) {
		push := times(int(args), "const3")
		for _, c := range []struct {
			text         string
			gives, value int64
			burnt        int64
		}{
			{"end", 0, 0, 1}, {"const1 const2 return end", 0, 0, 3}, {"const1 const2 jump0 end", 0, 0, 3}, {"const1 block0 const2 jump1 end drop end", 0, 0, 4},
			{"const5 end", 1, 5, 2}, {"const1 const2 return end", 1, 2, 3}, {"const1 const2 const3 jump0 end", 1, 3, 4}, {"const1 block0 const2 jump1 end end", 1, 2, 4}, {"const1 const2 const1 jumpif0 bin1 end", 1, 2, 4},
		} {
			f := aFunc(args, 3, c.gives, c.text)
			under := "const100 " + push + "call1 "
			if c.gives == 1 {
				under += "const1 bin1 bin1 "
			}
			wantGives(t, aModule(aFunc(0, 0, 1, under+"end"), f), nil, 100+c.gives*(c.value+1), args+3+c.burnt+3*c.gives)
			wantGives(t, aModule(f), []int64{9, 9, 9}[:args], c.value, c.burnt)
		}
	}
}

// Each of four Funcs is called by its number, by each of the others and by Meant itself.
func TestMeantOfCallsOfEachFunc(t *testing.T) {
	for from := range int64(4) {
		for to := range int64(4) {
			funcs := []impl.Func{aFunc(0, 0, 1, "const10 end"), aFunc(0, 0, 1, "const11 nop end"), aFunc(0, 0, 1, "const12 nop nop end"), aFunc(0, 0, 1, "const13 nop nop nop end")}
			wantMeaning(t, aModule(funcs...), to, nil, 0, 10+to, 2+to, make([]int64, 64))
			if from == to {
				continue
			}
			funcs[from] = aFunc(0, 0, 1, fmt.Sprintf("call%d const100 bin1 end", to))
			wantMeaning(t, aModule(funcs...), from, nil, 0, 110+to, 4+2+to, make([]int64, 64))
		}
	}
}

// product calls itself with one less, until that is 0.
const product = "get0 if1 get0 get0 const1 bin2 call0 bin3 else const1 end end"

func TestMeantOfCallsOfItself(t *testing.T) {
	want := int64(1)
	for n := range int64(12) {
		want *= max(n, 1)
		wantGives(t, aModule(aFunc(1, 0, 1, product)), []int64{n}, want, 10*n+5)
	}
	for _, n := range []int64{12, 13, 100, signBit, greatestWord} {
		wantMishap(t, aModule(aFunc(1, 0, 1, product)), []int64{n}, impl.OcDeep, 12*7)
	}
	// Twice within itself: the numbers of a row in which each is the sum of the two ahead of it.
	row := []int64{0, 1, 1, 2, 3, 5, 8, 13, 21, 34}
	text := "get0 const2 bin12 if1 get0 else get0 const1 bin2 call0 get0 const2 bin2 call0 bin1 end end"
	for n, value := range row {
		burnt := []int64{7, 7}
		for i := 2; i <= n; i++ {
			burnt = append(burnt, 4+9+2+burnt[i-1]+burnt[i-2])
		}
		wantGives(t, aModule(aFunc(1, 0, 1, text)), []int64{int64(n)}, value, burnt[n])
	}
}

// Locals behind the arguments are 0 at each call, and each call has its own.
func TestMeantOfLocalsOfEachCall(t *testing.T) {
	bump := aFunc(0, 1, 1, "get0 const1 bin1 tee0 end")
	wantGives(t, aModule(aFunc(0, 0, 1, "call1 call1 bin1 call1 bin1 end"), bump), nil, 3, 6+15)
	for args := range int64(4) {
		for local := range int64(3) {
			i := args + local
			f := aFunc(args, 3, 1, fmt.Sprintf("get%d const5 set%d end", i, i))
			push := times(int(args), "const9")
			wantGives(t, aModule(aFunc(0, 0, 1, push+"call1 drop "+push+"call1 end"), f), nil, 0, 2*args+4+8)
		}
	}
	// The caller's locals stay, and what the caller hands over stays with it.
	wantGives(t, aModule(aFunc(1, 2, 1, "const30 set1 const40 set2 get0 get1 get2 call1 get0 get1 bin1 get2 bin1 end"), aFunc(3, 0, 0, "const1 set0 const1 set1 const1 set2 end")), []int64{5}, 75, 14+7)
	// Of a Func that calls itself, too.
	wantGives(t, aModule(aFunc(1, 1, 1, "get0 set1 get0 if0 get0 const1 bin2 call0 drop end get1 end")), []int64{6}, 6, 6*12+6)
}

// The memory is the same one in all calls.
func TestMeantOfMemoryInCalls(t *testing.T) {
	store, load := aFunc(2, 0, 0, "get0 get1 store0 end"), aFunc(1, 0, 1, "get0 load0 end")
	m := aModule(aFunc(0, 0, 1, "const8 const77 call1 const8 load0 const8 call2 bin1 end"), store, load)
	memory := append(make([]int64, 8), append([]int64{77}, make([]int64, 55)...)...)
	wantMeaning(t, m, 0, nil, 0, 154, 8+1+4+3, memory)
	m = aModule(aFunc(0, 0, 1, "const8 const77 store0 const8 call2 end"), store, load)
	wantMeaning(t, m, 0, nil, 0, 77, 6+3, memory)
	// A count in memory goes on over all calls.
	m = aModule(aFunc(1, 0, 0, "const4 const4 load0 const1 bin1 store0 get0 if0 get0 const1 bin2 call0 end end"))
	for n := range int64(12) {
		wantMeaning(t, m, 0, []int64{n}, 0, 0, 14*n+9, append([]int64{0, 0, 0, 0, n + 1}, make([]int64, 59)...))
	}
	wantMeaning(t, m, 0, []int64{12}, 6, 0, 12*12, append([]int64{0, 0, 0, 0, 12}, make([]int64, 59)...))
}

// What ends all ends it within however many calls; nothing is done behind it, and what was stored ahead of it is there.
func TestMeantOfMishapsWithinCalls(t *testing.T) {
	for _, c := range []struct {
		text        string
		code, burnt int64
	}{
		{"trap end", 4, 1}, {"const5 const0 bin4 drop end", 1, 3}, {"const2147483648 const4294967295 bin4 drop end", 2, 3}, {"const61 load0 drop end", 3, 2}, {"const0 const1 store61 end", 3, 3},
	} {
		for calls := range int64(12) {
			inner := aFunc(1, 0, 0, "get0 if0 get0 const1 bin2 call1 else const0 const9 store0 call2 end const4 const9 store0 end")
			m := aModule(aFunc(1, 0, 1, "const1 get0 call1 const8 const9 store0 end"), inner, aFunc(0, 0, 0, c.text))
			if calls > 9 {
				// With the first Func and the second one, so often within itself, the next one to be called is too deep.
				wantMeaning(t, m, 0, []int64{calls}, 6, 0, wantDeep(calls), deepMemory(calls))
				continue
			}
			wantMeaning(t, m, 0, []int64{calls}, c.code, 0, 3+6*calls+6+c.burnt, append([]int64{9}, make([]int64, 63)...))
		}
	}
}

// wantDeep is what is burnt where the third Func is too deep (10 calls), or the second one itself is.
func wantDeep(calls int64) int64 {
	if calls == 10 {
		return 3 + 6*10 + 6
	}
	return 3 + 6*11
}

func deepMemory(calls int64) []int64 {
	return append([]int64{9 * flag(calls == 10)}, make([]int64, 63)...)
}

// chain is a Func that has so many within one another, itself the first, and comes back from all of them.
const chain = "get0 if0 get0 const1 bin2 call0 end end"

// MaxDepth Funcs that have not ended may be there; one more ends all ahead of its first Step, so that it takes no fuel.
func TestMeantAtTheDepth(t *testing.T) {
	m := aModule(aFunc(1, 0, 0, chain))
	for n := range int64(12) {
		wantGives(t, m, []int64{n}, 0, 8*n+3)
	}
	for _, n := range []int64{12, 13, 14, 1000} {
		wantMishap(t, m, []int64{n}, 6, 12*6)
	}
	wantMishap(t, aModule(aFunc(0, 0, 0, "call0 end")), nil, 6, 12)
	wantMishap(t, aModule(aFunc(0, 0, 1, "nop nop call0 end")), nil, 6, 36)
	wantMishap(t, aModule(aFunc(3, 3, 1, "get0 get1 get2 call0 end")), []int64{1, 2, 3}, 6, 48)
	// What would be the first Step of the one too deep is not come to, whatever it is, nor what Func it is of.
	for _, first := range []string{"trap", "const1 const0 bin4 drop", "loop jump0 end", "const0 const1 store0"} {
		f := aFunc(1, 0, 0, "get0 if0 get0 const1 bin2 call0 else call1 end end")
		wantMishap(t, aModule(f, aFunc(0, 0, 0, first+" end")), []int64{11}, 6, 11*6+3)
		wantMishap(t, aModule(f, aFunc(0, 0, 0, first+" end")), []int64{12}, 6, 12*6)
	}
	wantMishap(t, aModule(aFunc(1, 0, 0, "get0 if0 get0 const1 bin2 call0 else call1 end end"), aFunc(0, 0, 0, "trap end")), []int64{10}, 4, 10*6+4)
}

// Calls in a ring over four Funcs count together.
func TestMeantAtTheDepthOverManyFuncs(t *testing.T) {
	ring := func(to int) impl.Func {
		return aFunc(1, 0, 1, fmt.Sprintf("get0 if1 get0 const1 bin2 call%d const1 bin1 else const0 end end", to))
	}
	for count := 1; count <= 4; count++ {
		var funcs []impl.Func
		for i := range count {
			funcs = append(funcs, ring((i+1)%count))
		}
		for k := range int64(count) {
			for n := range int64(12) {
				wantMeaning(t, aModule(funcs...), k, []int64{n}, 0, n, 10*n+5, make([]int64, 64))
			}
			wantMeaning(t, aModule(funcs...), k, []int64{12}, 6, 0, 72, make([]int64, 64))
		}
	}
}

// Calls that have ended do not count: as often as one likes, one after the other, and up to the depth again.
func TestMeantOfManyCallsOneAfterTheOther(t *testing.T) {
	leaf := aFunc(0, 0, 0, "end")
	for _, n := range []int64{1, 11, 12, 13, 14, 100, 400} {
		wantGives(t, aModule(aFunc(1, 0, 0, "loop call1 get0 const1 bin2 tee0 jumpif0 end end"), leaf), []int64{n}, 0, 1+7*n+2)
	}
	wantGives(t, aModule(aFunc(0, 0, 0, times(40, "call1")+"end"), leaf), nil, 0, 81)
	back := aFunc(1, 0, 0, "get0 if0 get0 const1 bin2 call1 end end")
	wantGives(t, aModule(aFunc(0, 0, 0, "const10 call1 const10 call1 const10 call1 end"), back), nil, 0, 7+3*83)
	wantMishap(t, aModule(aFunc(0, 0, 0, "const10 call1 const10 call1 const11 call1 end"), back), nil, 6, 6+2*83+66)
	// Where one comes back by a jump or a return, too.
	for _, leave := range []string{"return", "jump0", "block0 jump1 end", "const1 jumpif0"} {
		f := aFunc(0, 0, 0, leave+" end")
		wantAsPlain(t, aMeaning{aModule(aFunc(0, 0, 0, times(40, "call1")+"end"), f), 0, nil, 3000})
		if got := impl.Meant(aModule(aFunc(0, 0, 0, times(40, "call1")+"end"), f), 0, nil, 3000); got.Code != 0 {
			t.Fatalf("40 calls that leave by %q end with %d", leave, got.Code)
		}
	}
}

// Whichever comes first: of two mishaps the one that one comes to, and fuel is asked for ahead of what a Step does.
func TestMeantOfWhicheverComesFirst(t *testing.T) {
	mishaps := []struct {
		text  string
		code  int64
		steps int64
	}{
		{"trap", 4, 1}, {"const1 const0 bin4 drop", 1, 3}, {"const2147483648 const4294967295 bin4 drop", 2, 3}, {"const60 load1 drop", 3, 2}, {"const61 const1 store0", 3, 3},
	}
	for _, a := range mishaps {
		for _, b := range mishaps {
			wantMishap(t, onePile(0, a.text+" "+b.text+" end"), nil, a.code, a.steps)
			wantMishap(t, onePile(0, "nop block0 "+a.text+" end "+b.text+" end"), nil, a.code, a.steps+2)
		}
		// Too deep, or the mishap ahead of the call.
		wantMishap(t, onePile(0, a.text+" call0 end"), nil, a.code, a.steps)
		wantMishap(t, onePile(0, "call0 "+a.text+" end"), nil, 6, 12)
		m := onePile(0, a.text+" loop jump0 end end")
		wantMishap(t, m, nil, a.code, a.steps)
		for fuel := range a.steps {
			wantOutcome(t, aMeaning{m, 0, nil, fuel}, impl.Outcome{Code: 5, Memory: make([]int64, 64)}, fuel)
		}
		for _, fuel := range []int64{0, 1, 10, 2999, 3000} {
			wantOutcome(t, aMeaning{onePile(0, "loop jump0 end "+a.text+" end"), 0, nil, fuel}, impl.Outcome{Code: 5, Memory: make([]int64, 64)}, fuel)
		}
	}
	deep := onePile(0, "call0 end")
	for fuel := range int64(20) {
		code := int64(5)
		if fuel >= 12 {
			code = 6
		}
		wantOutcome(t, aMeaning{deep, 0, nil, fuel}, impl.Outcome{Code: code, Memory: make([]int64, 64)}, min(fuel, 12))
	}
}

// Func k begins by its arguments in their order, and they are words of every size.
func TestMeantOfArgumentsOfEachSize(t *testing.T) {
	for _, w := range manyWords() {
		args := []int64{w, greatestWord - w, w / 2}
		for i, want := range args {
			wantGives(t, aModule(aFunc(3, 0, 1, fmt.Sprintf("get%d end", i))), args, want, 2)
		}
		wantGives(t, aModule(aFunc(3, 0, 1, "get2 get1 get0 call1 end"), aFunc(3, 0, 1, "get2 end")), args, w, 7)
		if !slices.Equal(args, []int64{w, greatestWord - w, w / 2}) {
			t.Fatalf("arguments are others: %v", args)
		}
	}
}
