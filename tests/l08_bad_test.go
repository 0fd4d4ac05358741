package tests

import (
	"slices"
	"testing"

	"loop.example/g00363/impl"
)

// wantBad asks for OcBad, 0 and none, with every fuel there may be.
func wantBad(t *testing.T, m impl.Module, k int64, args []int64) {
	t.Helper()
	for _, fuel := range []int64{0, 1, 100, 3000} {
		wantOutcome(t, aMeaning{m, k, args, fuel}, impl.Outcome{Code: impl.OcBad}, -1)
	}
}

// numbersOutside are no numbers of count things; some of them would be if only their last bits were looked at.
func numbersOutside(count int64) []int64 {
	return []int64{-1, -2, -count, count, count + 1, 4, 5, 256, 65536, 4294967296, 4294967297, -4294967296, -4294967295, 1 << 40, leastInt, leastInt + 1, greatestInt, greatestInt - 1}
}

func TestMeantOfNoFunc(t *testing.T) {
	for count := int64(1); count <= 4; count++ {
		m := aModule(slices.Repeat([]impl.Func{aFunc(0, 0, 0, "end")}, int(count))...)
		for k := range count {
			wantGives(t, impl.Module{Funcs: m.Funcs[k:]}, nil, 0, 1)
			wantMeaning(t, m, k, nil, 0, 0, 1, make([]int64, 64))
		}
		for _, k := range numbersOutside(count) {
			if k < 0 || k >= count {
				wantBad(t, m, k, nil)
			}
		}
		// There is room behind the list, but no Func.
		wantBad(t, impl.Module{Funcs: m.Funcs[:count-1]}, count-1, nil)
	}
}

func TestMeantOfOtherCountsOfArguments(t *testing.T) {
	args := []int64{1, 2, 3, 4, 5}
	for count := range int64(4) {
		for k := range int64(2) {
			funcs := []impl.Func{aFunc(3-count, 0, 0, "end"), aFunc(3-count, 0, 0, "end")}
			funcs[k] = aFunc(count, 2, 1, "const5 end")
			for given := range int64(6) {
				if given == count {
					wantMeaning(t, aModule(funcs...), k, args[:given], 0, 5, 2, make([]int64, 64))
				} else {
					wantBad(t, aModule(funcs...), k, args[:given])
				}
			}
		}
	}
	wantBad(t, aModule(aFunc(0, 0, 0, "end")), 0, make([]int64, 1000))
	// An empty list and nil are alike.
	for _, none := range [][]int64{nil, {}, args[:0], make([]int64, 0, 3)} {
		wantGives(t, aModule(aFunc(0, 0, 1, "const5 end")), none, 5, 2)
		wantBad(t, aModule(aFunc(1, 0, 1, "const5 end")), 0, none)
	}
}

func TestMeantOfArgumentsThatAreNoWords(t *testing.T) {
	for count := int64(1); count <= 3; count++ {
		for _, text := range []string{"end", "trap end", "get0 drop end", "loop jump0 end end"} {
			for at := range count {
				for _, n := range noWords {
					args := slices.Repeat([]int64{greatestWord}, int(count))
					args[at] = n
					wantBad(t, aModule(aFunc(count, 0, 0, text)), 0, args)
				}
			}
		}
	}
	for _, n := range noWords {
		wantBad(t, aModule(aFunc(0, 0, 0, "end")), 0, []int64{n})
	}
}

// A module is refused wherever in it something is not Valid, though one would not come there.
func TestMeantOfModulesThatAreNotValid(t *testing.T) {
	right := aFunc(0, 0, 1, "const5 end")
	wrong := []impl.Func{
		{}, aFunc(0, 0, 0, "nop"), aFunc(0, 0, 0, "drop end"), aFunc(0, 0, 1, "end"), aFunc(0, 0, 0, "get0 drop end"), aFunc(0, 0, 0, "jump1 end"), aFunc(0, 0, 0, "trap jump1 end"), aFunc(0, 0, 0, "end end"), aFunc(0, 0, 0, "block0 end"),
		aFunc(0, 0, 0, times(21, "const")+"trap end"), aFunc(0, 0, 0, "const if1 const end drop end"), aFunc(0, 0, 0, "const const end"), aFunc(0, 0, 0, "else end"), aFunc(4, 0, 0, "end"), aFunc(0, 4, 0, "end"), aFunc(0, 0, 2, "const const end"), aFunc(-1, 0, 0, "end"),
		{Body: []impl.Step{{Op: 21}, {Op: 12}}}, {Body: []impl.Step{{Op: 12, A: 1}}}, aFunc(0, 0, 0, times(80, "nop")+"end"),
	}
	for count := 1; count <= 4; count++ {
		for at := range count {
			for _, f := range wrong {
				funcs := slices.Repeat([]impl.Func{right}, count)
				funcs[at] = f
				for k := range int64(count) {
					wantBad(t, aModule(funcs...), k, make([]int64, max(funcs[k].Args, 0)))
				}
			}
		}
	}
	wantBad(t, aModule(slices.Repeat([]impl.Func{right}, 5)...), 0, nil)
	wantBad(t, aModule(aFunc(0, 0, 1, "const5 return call1 end")), 0, nil)
	for _, m := range []impl.Module{{}, {Funcs: []impl.Func{}}, {Funcs: make([]impl.Func, 0, 4)}, {Data: "a"}} {
		wantBad(t, m, 0, nil)
		wantBad(t, m, -1, nil)
	}
	long := onePile(1, "const5 end")
	for size := 62; size < 70; size++ {
		long.Data = manyData(85, size)
		if size <= 64 {
			wantMeaning(t, long, 0, nil, 0, 5, 2, impl.NewMemory(long.Data))
		} else {
			wantBad(t, long, 0, nil)
		}
	}
	for _, m := range wrongModules()[:400] {
		wantBad(t, m, 0, nil)
	}
}

// Several things that are not as told are OcBad, too.
func TestMeantOfManyFaults(t *testing.T) {
	bad := impl.Outcome{Code: impl.OcBad}
	for _, m := range []impl.Module{onePile(0, "end"), onePile(0, "drop end"), {}} {
		for _, k := range []int64{-1, 1, leastInt, greatestInt} {
			for _, args := range [][]int64{nil, {-1}, {1, 2, 3, 4}} {
				for _, fuel := range []int64{-1, 0, 3000, 3001, leastInt, greatestInt} {
					wantOutcome(t, aMeaning{m, k, args, fuel}, bad, -1)
				}
			}
		}
	}
}

// differing is each way in which o may be another one, one thing at a time.
func differing(o impl.Outcome) []impl.Outcome {
	var list []impl.Outcome
	for _, n := range []int64{1, -1, 256, 4294967296, -4294967296, leastInt} {
		code, value := o, o
		code.Code += n
		value.Value += n
		list = append(list, code, value)
		for at := range o.Memory {
			memory := o
			memory.Memory = changed(o.Memory, at, o.Memory[at]+n)
			list = append(list, memory)
		}
	}
	longer := o
	longer.Memory = append(slices.Clone(o.Memory), 0)
	list = append(list, longer)
	if count := len(o.Memory); count > 0 {
		shorter, none := o, o
		shorter.Memory, none.Memory = o.Memory[:count-1], nil
		list = append(list, shorter, none)
	}
	return list
}

func TestSameOutcome(t *testing.T) {
	turned := plainNumbers("ba" + manyData(86, 62))
	for _, o := range []impl.Outcome{
		{}, {Code: 7}, {Code: -1, Value: leastInt}, {Value: 5, Memory: make([]int64, 64)}, {Code: 3, Memory: plainNumbers("ab" + manyData(86, 62))}, {Code: 9, Value: greatestInt, Memory: []int64{1, -1, greatestInt}}, {Memory: make([]int64, 1)}, {Value: greatestWord, Memory: make([]int64, 65)},
	} {
		other := impl.Outcome{Code: o.Code, Value: o.Value, Memory: slices.Clone(o.Memory)}
		if !impl.SameOutcome(o, o) || !impl.SameOutcome(o, other) || !impl.SameOutcome(other, o) {
			t.Fatalf("%v is not the same as itself", o)
		}
		for _, d := range append(differing(o), impl.Outcome{Code: o.Code, Value: o.Value, Memory: turned}) {
			if impl.SameOutcome(o, d) || impl.SameOutcome(d, o) {
				t.Fatalf("%v is the same as %v", o, d)
			}
		}
	}
	// An empty list and nil are alike, and room behind a list does not count.
	empty := []impl.Outcome{{Code: 7}, {Code: 7, Memory: []int64{}}, {Code: 7, Memory: make([]int64, 0, 64)}, {Code: 7, Memory: []int64{1, 2}[:0]}}
	for _, a := range empty {
		for _, b := range empty {
			if !impl.SameOutcome(a, b) {
				t.Fatalf("%#v is not the same as %#v", a, b)
			}
		}
	}
	first, _ := inRoom([]int64{1, 2, 3}, 5, 8)
	second, _ := inRoom([]int64{1, 2, 3}, 9, 7)
	if !impl.SameOutcome(impl.Outcome{Memory: first}, impl.Outcome{Memory: second}) {
		t.Fatal("the room behind a list counts")
	}
	// What one has at another place, or in another field, is not the same.
	if impl.SameOutcome(impl.Outcome{Code: 1}, impl.Outcome{Value: 1}) || impl.SameOutcome(impl.Outcome{Memory: []int64{1, 2}}, impl.Outcome{Memory: []int64{2, 1}}) || impl.SameOutcome(impl.Outcome{Code: 1, Value: 2}, impl.Outcome{Code: 2, Value: 1}) {
		t.Fatal("unlike ones are the same")
	}
}

// Of what Meant answers SameOutcome says just what a look at each field says.
func TestSameOutcomeOfManyMeanings(t *testing.T) {
	var list []impl.Outcome
	for _, q := range manyMeanings(87, 60) {
		list = append(list, q.meant(), q.withFuel(3).meant())
	}
	same := 0
	for _, a := range list {
		for _, b := range list {
			if got := impl.SameOutcome(a, b); got != sameOutcome(a, b) {
				t.Fatalf("SameOutcome(%v, %v) is %v", a, b, got)
			}
			same += int(flag(sameOutcome(a, b)))
		}
	}
	if same <= len(list) || same == len(list)*len(list) {
		t.Fatalf("%d of %d are the same: too few to tell", same, len(list)*len(list))
	}
}
