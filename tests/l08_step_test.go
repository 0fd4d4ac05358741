package tests

import (
	"fmt"
	"slices"
	"testing"

	"loop.example/g00363/impl"
)

func TestConstantsOfChapter8(t *testing.T) {
	if impl.MaxFuel != 3000 || impl.MaxDepth != 12 {
		t.Errorf("MaxFuel is %d, MaxDepth %d", impl.MaxFuel, impl.MaxDepth)
	}
}

func TestMeantByHand(t *testing.T) {
	wantCases(t, 1, []aMeaningCase{
		{"const7 end", 7, 2}, {"const0 end", 0, 2}, {"const4294967295 end", greatestWord, 2}, {"const2147483648 end", signBit, 2},
		{"nop const3 nop nop end", 3, 5},
		{"const1 const2 drop end", 1, 4}, {"const1 const2 const3 drop drop end", 1, 6},
		{"const0 zero end", 1, 3}, {"const1 zero end", 0, 3}, {"const2 zero end", 0, 3}, {"const256 zero end", 0, 3}, {"const65536 zero end", 0, 3}, {"const2147483648 zero end", 0, 3}, {"const4294967295 zero end", 0, 3},
		{"const5 const0 zero bin2 end", 4, 5}, {"const5 const9 zero bin2 end", 5, 5}, {"const8 zero zero end", 1, 4},
		{"const7 const5 bin2 end", 2, 4}, {"const5 const7 bin2 end", 4294967294, 4}, {"const7 const2 bin4 end", 3, 4}, {"const4294967289 const2 bin4 end", 4294967293, 4},
		{"const1 const2 const3 bin2 bin2 end", 2, 6}, {"const1 const2 bin2 const3 bin2 end", 4294967292, 6},
		{"block1 const4 end end", 4, 4}, {"const1 block0 nop end end", 1, 5}, {"const1 loop nop end end", 1, 5},
		{"const1 block1 const2 end bin1 end", 3, 6}, {"const1 loop const5 drop end end", 1, 6}, {"block1 block1 block1 const6 end end end end", 6, 8},
		{"const9 return end", 9, 2}, {"const9 jump0 end", 9, 2},
	})
	wantCases(t, 0, []aMeaningCase{
		{"end", 0, 1}, {"nop end", 0, 2}, {"const5 drop end", 0, 3}, {"block0 end loop end end", 0, 5}, {"return end", 0, 1}, {"jump0 end", 0, 1},
	})
	wantMishap(t, onePile(0, "trap end"), nil, 4, 1)
	wantMishap(t, onePile(1, "nop const5 trap end"), nil, 4, 3)
}

// SpBin takes a from below the upper one b: by each kind, with more below, and with each code that Done gives.
func TestMeantOfEachBin(t *testing.T) {
	words := append(slices.Clone(edgeWords), manyWords()[len(edgeWords):len(edgeWords)+6]...)
	codes := map[int64]int{}
	for kind := int64(1); kind <= 12; kind++ {
		for _, a := range words {
			for _, b := range words {
				value, code := plainDone(kind, a, b)
				codes[code]++
				alone := onePile(1, fmt.Sprintf("const%d const%d bin%d end", a, b, kind))
				above := onePile(1, fmt.Sprintf("const77 const%d const%d bin%d drop end", a, b, kind))
				if code == 0 {
					wantOutcome(t, aMeaning{alone, 0, nil, 4}, impl.Outcome{Value: value, Memory: make([]int64, 64)}, 4)
					wantOutcome(t, aMeaning{above, 0, nil, 9}, impl.Outcome{Value: 77, Memory: make([]int64, 64)}, 6)
				} else {
					wantOutcome(t, aMeaning{alone, 0, nil, 3}, impl.Outcome{Code: code, Memory: make([]int64, 64)}, 3)
					wantOutcome(t, aMeaning{above, 0, nil, 9}, impl.Outcome{Code: code, Memory: make([]int64, 64)}, 4)
				}
			}
		}
	}
	if codes[0] < 1000 || codes[1] < 20 || codes[2] != 1 {
		t.Fatalf("%v: too few to tell", codes)
	}
	wantMishap(t, onePile(1, "const1 const0 bin4 end"), nil, 1, 3)
	wantMishap(t, onePile(1, "const0 const0 bin4 end"), nil, 1, 3)
	wantMishap(t, onePile(1, "const2147483648 const4294967295 bin4 end"), nil, 2, 3)
	wantGives(t, onePile(1, "const4294967295 const2147483648 bin4 end"), nil, 0, 4)
}

// Each local is got, set and kept on its own, whether it is an argument or one behind them.
func TestMeantOfEachLocal(t *testing.T) {
	args := []int64{11, 12, 13}
	for count := int64(0); count <= 3; count++ {
		for locals := int64(0); locals <= 3; locals++ {
			for i := range count + locals {
				first := int64(0)
				if i < count {
					first = args[i]
				}
				wantGives(t, aModule(aFunc(count, locals, 1, fmt.Sprintf("get%d end", i))), args[:count], first, 2)
				for j := range count + locals {
					want := int64(99)
					if j != i {
						want = 0
						if j < count {
							want = args[j]
						}
					}
					wantGives(t, aModule(aFunc(count, locals, 1, fmt.Sprintf("const99 set%d get%d end", i, j))), args[:count], want, 4)
					wantGives(t, aModule(aFunc(count, locals, 1, fmt.Sprintf("const99 tee%d drop get%d end", i, j))), args[:count], want, 5)
				}
			}
		}
	}
}

// SpSet takes the uppermost, SpTee leaves it; SpGet puts what is there then.
func TestMeantOfSetAndTee(t *testing.T) {
	for _, c := range []aMeaningCase{
		{"const1 const2 set0 end", 1, 4}, {"const1 const2 tee0 set1 drop get1 end", 2, 7},
		{"const1 const2 tee0 bin2 end", 4294967295, 5}, {"const8 tee0 get0 bin1 end", 16, 5},
		{"const8 set0 const9 set0 get0 end", 9, 6}, {"const8 tee0 tee1 get0 get1 bin1 bin1 end", 24, 8},
		{"get0 const8 set0 end", 5, 4}, {"get0 const8 set0 get0 bin2 end", 4294967293, 6}, {"get0 set1 const8 set0 get1 end", 5, 6},
	} {
		wantGives(t, aModule(aFunc(1, 1, 1, c.text)), []int64{5}, c.value, c.burnt)
	}
}

func TestMeantOfIfs(t *testing.T) {
	for _, taken := range []int64{1, 2, 256, 65536, signBit, greatestWord} {
		if0 := fmt.Sprintf("const%d if0 ", taken)
		if1 := fmt.Sprintf("const%d if1 ", taken)
		wantCases(t, 1, []aMeaningCase{
			{if0 + "nop nop end const9 end", 9, 7}, {if0 + "end const9 end", 9, 5}, {if0 + "nop else nop nop nop end const9 end", 9, 6}, {if0 + "else end const9 end", 9, 5},
			{if1 + "const5 else const6 end end", 5, 5}, {"const7 " + if1 + "const5 else const6 end bin2 end", 2, 7},
			{if1 + "const5 nop nop else const6 nop end end", 5, 7}, {if1 + "const5 else trap end end", 5, 5},
			{if0 + "else trap end const9 end", 9, 5},
		})
		wantMishap(t, onePile(0, if0+"trap else nop end end"), nil, 4, 3)
		wantMishap(t, onePile(0, if0+"trap end end"), nil, 4, 3)
	}
	wantCases(t, 1, []aMeaningCase{
		{"const0 if0 nop nop end const9 end", 9, 4}, {"const0 if0 end const9 end", 9, 4}, {"const0 if0 trap end const9 end", 9, 4},
		{"const0 if0 nop else nop nop nop end const9 end", 9, 8}, {"const0 if0 else end const9 end", 9, 5}, {"const0 if0 trap else end const9 end", 9, 5},
		{"const0 if1 const5 else const6 end end", 6, 5}, {"const7 const0 if1 const5 else const6 end bin2 end", 1, 7},
		{"const0 if1 const5 nop nop else const6 nop end end", 6, 6},
	})
	wantMishap(t, onePile(0, "const0 if0 nop else trap end end"), nil, 4, 3)
}

// An SpIf's own SpElse and SpEnd are gone to, not those of one within it or around it.
func TestMeantOfIfsInOneAnother(t *testing.T) {
	for outer := range int64(2) {
		for inner := range int64(2) {
			text := fmt.Sprintf("const%d if1 const%d if1 const1 else const2 end else const%d if1 const3 else const4 end end end", outer, inner, inner)
			wantGives(t, onePile(1, text), nil, 4-inner-2*outer, 8)
			text = fmt.Sprintf("const10 const%d if0 const%d if0 nop end const0 if0 trap else nop end end end", outer, inner)
			wantGives(t, onePile(1, text), nil, 10, 4+outer*(7+2*inner))
			text = fmt.Sprintf("const%d if0 block0 const%d if0 nop end nop end else loop const%d if0 nop else nop end end end const5 end", outer, inner, inner)
			wantGives(t, onePile(1, text), nil, 5, wantIfsBurnt(outer, inner))
		}
	}
}

// wantIfsBurnt counts the Steps of the last text above, way by way.
func wantIfsBurnt(outer, inner int64) int64 {
	ahead, behind := int64(2), int64(2)
	if outer == 1 {
		// block const if, nop end where it is taken, nop end, else
		return ahead + 3 + 2*inner + 2 + 1 + behind
	}
	// loop const if, nop else or nop end, end, end
	return ahead + 3 + 2 + 2 + behind
}

// Loads and stores at each place from 0 to 60, by all ways to tell it, and one beyond.
func TestMeantOfEachPlace(t *testing.T) {
	data := manyData(81, 64)
	memory := plainNumbers(data)
	for place := range int64(61) {
		for _, s := range spotsOf(place) {
			if place > 3 && place < 57 && s.offset%7 != 0 && s.at > 0 {
				continue
			}
			load := onePile(1, fmt.Sprintf("const%d load%d end", s.at, s.offset))
			load.Data = data
			wantMeaning(t, load, 0, nil, 0, plainLoad(memory, place), 3, memory)
			store := onePile(0, fmt.Sprintf("const%d const16909060 store%d end", s.at, s.offset))
			store.Data = data
			wantMeaning(t, store, 0, nil, 0, 0, 4, plainStore(memory, place, 16909060))
		}
	}
	for _, s := range noSpots() {
		if s.at < 0 || s.at > greatestWord || s.offset < 0 || s.offset > 255 {
			continue
		}
		load := onePile(1, fmt.Sprintf("const%d load%d end", s.at, s.offset))
		load.Data = data
		wantMeaning(t, load, 0, nil, 3, 0, 2, memory)
		store := onePile(0, fmt.Sprintf("const%d const16909060 store%d end", s.at, s.offset))
		store.Data = data
		wantMeaning(t, store, 0, nil, 3, 0, 3, memory)
	}
}

func TestMeantOfLoadAndStoreByHand(t *testing.T) {
	m := onePile(1, "const0 load0 const4 load0 bin2 end")
	m.Data = "\x05\x01\x00\x00\x02\x00\x00\x00"
	wantMeaning(t, m, 0, nil, 0, 259, 6, append(plainNumbers(m.Data), make([]int64, 56)...))
	m = onePile(1, "const8 const60 const4294967294 store0 const60 load0 bin1 end")
	wantMeaning(t, m, 0, nil, 0, 6, 8, append(make([]int64, 60), 254, 255, 255, 255))
	m = onePile(1, "const7 const56 const2 store4 const1 load0 bin1 end")
	wantMeaning(t, m, 0, nil, 0, 7, 8, append(make([]int64, 60), 2, 0, 0, 0))
	m = onePile(0, "const1 const258 store0 const2 const259 store0 end")
	wantMeaning(t, m, 0, nil, 0, 0, 7, append([]int64{0, 2, 3, 1}, make([]int64, 60)...))
	m = onePile(0, "const0 const1 store0 const61 const2 store0 end")
	wantMeaning(t, m, 0, nil, 3, 0, 6, append([]int64{1}, make([]int64, 63)...))
	m = onePile(0, "const0 const1 store60 const4294967295 load1 drop end")
	wantMeaning(t, m, 0, nil, 3, 0, 5, append(make([]int64, 60), 1, 0, 0, 0))
}

// The memory is NewMemory of Data at the beginning, of each length.
func TestMeantBeginsWithData(t *testing.T) {
	for size := range 65 {
		m := onePile(0, "end")
		m.Data = manyData(uint64(size)+82, size)
		wantMeaning(t, m, 0, nil, 0, 0, 1, impl.NewMemory(m.Data))
		wantOutcome(t, aMeaning{m, 0, nil, 0}, impl.Outcome{Code: impl.OcFuel, Memory: impl.NewMemory(m.Data)}, 0)
		m.Funcs[0] = aFunc(0, 0, 0, "trap end")
		wantMeaning(t, m, 0, nil, 4, 0, 1, impl.NewMemory(m.Data))
	}
}

// What was stored is in the Memory of every code.
func TestMeantHasWhatWasStored(t *testing.T) {
	memory := append(append(plainNumbers("abcd"), 4, 3, 2, 1), make([]int64, 56)...)
	for _, c := range []struct {
		text        string
		code, burnt int64
	}{
		{"end", 0, 4}, {"const1 const0 bin4 drop end", 1, 6}, {"const2147483648 const4294967295 bin4 drop end", 2, 6}, {"const61 load0 drop end", 3, 5}, {"const0 const9 store61 end", 3, 6}, {"const4294967295 const9 store255 end", 3, 6}, {"trap end", 4, 4}, {"return end", 0, 4}, {"jump0 end", 0, 4},
	} {
		m := onePile(0, "const0 const16909060 store4 "+c.text)
		m.Data = "abcd"
		wantMeaning(t, m, 0, nil, c.code, 0, c.burnt, memory)
	}
	m := onePile(0, "const0 const16909060 store4 loop jump0 end end")
	m.Data = "abcd"
	for _, fuel := range []int64{3, 4, 5, 100, 3000} {
		wantOutcome(t, aMeaning{m, 0, nil, fuel}, impl.Outcome{Code: 5, Memory: memory}, fuel)
	}
	wantOutcome(t, aMeaning{m, 0, nil, 2}, impl.Outcome{Code: 5, Memory: impl.NewMemory("abcd")}, 2)
	m = onePile(0, "const0 const16909060 store4 call0 end")
	m.Data = "abcd"
	wantMeaning(t, m, 0, nil, 6, 0, 48, memory)
}
