package tests

import (
	"slices"
	"strings"
	"testing"

	"loop.example/g00363/impl"
)

// stepsReading says by the table of kinds and the rules of chapter 2's tests what is to be read.
func stepsReading(s string) ([]impl.Step, bool) {
	var list []impl.Step
	for s != "" {
		step := impl.Step{Op: int64(s[0])}
		s = s[1:]
		if step.Op < 1 || step.Op > 20 || len(list) == 80 {
			return nil, false
		}
		kind := kindsOfSteps[step.Op-1]
		if kind.told {
			read := natReading
			if step.Op == 1 {
				read = intReading
			}
			n, size, is := read(s)
			if n < 0 {
				n += 4294967296
			}
			if !is || n < kind.least || n > kind.greatest {
				return nil, false
			}
			step.A, s = n, s[size:]
		}
		list = append(list, step)
	}
	return list, true
}

func wantSteps(t *testing.T, s string, want []impl.Step) {
	t.Helper()
	if got, is := impl.ReadSteps(s); !is || !slices.Equal(got, want) {
		t.Fatalf("ReadSteps(%q) = %v, %v, want %v", s, got, is, want)
	}
}

func wantNoSteps(t *testing.T, s string) {
	t.Helper()
	if got, is := impl.ReadSteps(s); is || len(got) != 0 {
		t.Fatalf("ReadSteps(%q) = %v, %v, want nothing and false", s, got, is)
	}
}

func wantAsRead(t *testing.T, s string) {
	t.Helper()
	if want, is := stepsReading(s); is {
		wantSteps(t, s, want)
	} else {
		wantNoSteps(t, s)
	}
}

// wantWrongAmongRight asks for a wrong piece alone, and with right Steps ahead of it; with more of them behind only where the piece cannot take them in.
func wantWrongAmongRight(t *testing.T, piece string, whole bool) {
	t.Helper()
	wantNoSteps(t, piece)
	wantNoSteps(t, "\x14"+piece)
	wantNoSteps(t, "\x01\x7f\x02\x01\x05\x01"+piece)
	if whole {
		wantNoSteps(t, piece+"\x0c")
		wantNoSteps(t, "\x06\x11\xff\x01"+piece+"\x0c\x14")
	}
}

func TestReadStepsByHand(t *testing.T) {
	list, text := []impl.Step{}, ""
	for _, c := range stepCases {
		wantSteps(t, c.text, []impl.Step{c.step})
		list, text = append(list, c.step), text+c.text
		wantSteps(t, text, list)
	}
	wantSteps(t, "\x01\x7f\x02\x01\x05\x01\x0c", []impl.Step{{Op: impl.SpConst, A: 4294967295}, {Op: impl.SpGet, A: 1}, {Op: impl.SpBin, A: impl.BoAdd}, {Op: impl.SpEnd}})
}

func TestReadStepsOfTheEmptyText(t *testing.T) {
	wantSteps(t, "", nil)
	for _, list := range [][]impl.Step{nil, {}, make([]impl.Step, 0, 3)} {
		wantSteps(t, impl.ShowSteps(list), list)
	}
}

// P3: each Step alone, twice, each two of the hand-written ones, and long lists.
func TestReadStepsOfShowSteps(t *testing.T) {
	for _, s := range rightSteps() {
		wantSteps(t, impl.ShowSteps([]impl.Step{s}), []impl.Step{s})
		wantSteps(t, impl.ShowSteps([]impl.Step{s, s}), []impl.Step{s, s})
	}
	for _, c := range stepCases {
		for _, d := range stepCases {
			wantSteps(t, impl.ShowSteps([]impl.Step{c.step, d.step}), []impl.Step{c.step, d.step})
		}
	}
	for seed := range uint64(400) {
		list := manySteps(seed, int(seed)%81)
		wantSteps(t, impl.ShowSteps(list), list)
	}
}

func TestReadStepsAtTheLimit(t *testing.T) {
	for _, s := range rightSteps() {
		text := plainSteps([]impl.Step{s})
		wantSteps(t, strings.Repeat(text, 79), slices.Repeat([]impl.Step{s}, 79))
		wantSteps(t, strings.Repeat(text, 80), slices.Repeat([]impl.Step{s}, 80))
		wantNoSteps(t, strings.Repeat(text, 81))
		wantNoSteps(t, strings.Repeat(text, 82))
	}
	for seed := range uint64(50) {
		wantSteps(t, plainSteps(manySteps(seed, 80)), manySteps(seed, 80))
		wantNoSteps(t, plainSteps(manySteps(seed, 81)))
		wantNoSteps(t, plainSteps(manySteps(seed, 80))+"\x00")
		wantNoSteps(t, plainSteps(manySteps(seed, 80))+"\x02")
	}
	wantNoSteps(t, strings.Repeat("\x14", 300000))
	wantNoSteps(t, "\x01"+strings.Repeat("\xff", 300000))
}

func TestReadStepsOfBytesThatAreNoOp(t *testing.T) {
	for b := range 256 {
		if b >= 1 && b <= 20 {
			continue
		}
		op := string([]byte{byte(b)})
		wantWrongAmongRight(t, op, true)
		wantWrongAmongRight(t, op+"\x00", true)
		wantWrongAmongRight(t, op+"\x01", true)
	}
}

func TestReadStepsWhereAIsCutOff(t *testing.T) {
	for _, k := range kindsOfSteps {
		if k.told {
			wantWrongAmongRight(t, string([]byte{byte(k.op)}), false)
			wantWrongAmongRight(t, string([]byte{byte(k.op), 128}), false)
			wantWrongAmongRight(t, string([]byte{byte(k.op), 255}), false)
		}
	}
	for _, s := range rightSteps() {
		text := plainSteps([]impl.Step{s})
		for cut := 1; cut < len(text); cut++ {
			wantWrongAmongRight(t, text[:cut], false)
		}
	}
	for _, piece := range []string{"\x01\x80", "\x01\xff\xff\xff\xff", "\x01\x80\x80\x80\x80", "\x11\xff", "\x12\x80"} {
		wantWrongAmongRight(t, piece, false)
	}
}

func TestReadStepsWhereAHasMoreBytesThanDo(t *testing.T) {
	for _, s := range rightSteps() {
		if !kindsOfSteps[s.Op-1].told {
			continue
		}
		sign := byte(0)
		if s.Op == 1 && s.A >= signBit {
			sign = 127
		}
		once := longer(plainSteps([]impl.Step{s}), sign)
		wantWrongAmongRight(t, once, true)
		wantWrongAmongRight(t, longer(once, sign), true)
	}
	for _, piece := range []string{"\x02\x80\x00", "\x05\x81\x00", "\x08\x81\x00", "\x11\xff\x81\x00", "\x01\x80\x00", "\x01\xff\x7f", "\x01\xff\xff\x7f", "\x01\x80\x80\x80\x80\x80\x00"} {
		wantWrongAmongRight(t, piece, true)
	}
}

func TestReadStepsWhereAIsNotRight(t *testing.T) {
	for _, k := range kindsOfSteps[1:] {
		if !k.told {
			continue
		}
		op := string([]byte{byte(k.op)})
		for _, a := range []int64{k.greatest + 1, k.greatest + 2, k.greatest + 128, k.least + 256, 65536, 2147483648, 4294967295} {
			wantWrongAmongRight(t, op+plainNat(a), true)
		}
	}
	for _, piece := range []string{"\x05\x00", "\x05\x0d", "\x02\x06", "\x03\x06", "\x04\x06", "\x08\x02", "\x0a\x02", "\x0d\x0a", "\x0e\x0a", "\x10\x04", "\x11\x80\x02", "\x12\x80\x02"} {
		wantWrongAmongRight(t, piece, true)
	}
}

// Of a constant, numbers past those of 32 bits with a sign, ShowNat's bytes of a word among them.
func TestReadStepsOfConstantsOutOfRange(t *testing.T) {
	for _, n := range []int64{2147483648, 4294967295, 4294967296, 34359738367, -2147483649, -4294967296, -34359738368 / 2} {
		wantWrongAmongRight(t, "\x01"+plainInt(n), true)
	}
	for _, piece := range []string{
		"\x01\xff\xff\xff\xff\x0f", "\x01\x80\x80\x80\x80\x08", "\x01\xff\xff\xff\xff\x08", "\x01\x80\x80\x80\x80\x70", "\x01\x80\x80\x80\x80\x77", "\x01\xff\xff\xff\xff\x7f",
		"\x01\xff\xff\xff\xff\xff\x7f", "\x01\x80\x80\x80\x80\x80\x01",
	} {
		wantWrongAmongRight(t, piece, true)
	}
}

// A byte for an A that is not told is an Op of its own.
func TestReadStepsWhereAIsNotTold(t *testing.T) {
	for _, k := range kindsOfSteps {
		if k.told {
			continue
		}
		op := string([]byte{byte(k.op)})
		wantSteps(t, op, []impl.Step{{Op: k.op}})
		wantSteps(t, op+"\x14", []impl.Step{{Op: k.op}, {Op: impl.SpNop}})
		wantNoSteps(t, op+"\x00")
		wantNoSteps(t, op+"\x01")
		wantNoSteps(t, op+"\x80")
	}
}

func TestReadStepsOfAllShortTexts(t *testing.T) {
	last := []byte{0, 1, 2, 5, 6, 9, 12, 13, 20, 21, 63, 64, 127, 128, 192, 255}
	for a := range 256 {
		wantAsRead(t, string([]byte{byte(a)}))
		for b := range 256 {
			text := string([]byte{byte(a), byte(b)})
			wantAsRead(t, text)
			wantAsRead(t, "\x01\xff\xff\xff"+text)
			wantAsRead(t, "\x01\x80\x80\x80"+text)
			for _, c := range last {
				wantAsRead(t, text+string([]byte{c}))
				wantAsRead(t, "\x14"+text+string([]byte{c, 12}))
			}
		}
	}
}

// P3, the other way round: a text is read only where it is what ShowSteps makes of the Steps; one byte of right ones is another each time.
func TestWhatIsReadOfStepsIsWhatIsShown(t *testing.T) {
	state := uint64(7)
	for seed := range uint64(300) {
		text := []byte(plainSteps(manySteps(seed, 1+int(seed)%80)))
		for range 60 {
			state = state*6364136223846793005 + 1442695040888963407
			at := int(state>>33) % len(text)
			kept := text[at]
			text[at] = byte(state >> 24)
			if state>>30%2 == 0 {
				text[at] = text[at] % 22
			}
			s := string(text)
			wantAsRead(t, s)
			if list, is := impl.ReadSteps(s); is && impl.ShowSteps(list) != s {
				t.Fatalf("ReadSteps(%q) = %v, which shows %q", s, list, impl.ShowSteps(list))
			}
			text[at] = kept
		}
	}
}

// P21: an answer is new memory.
func TestStepsReadAreNewMemory(t *testing.T) {
	s := plainSteps(manySteps(11, 80))
	want := manySteps(11, 80)
	first, _ := impl.ReadSteps(s)
	second, _ := impl.ReadSteps(s)
	for i := range first {
		first[i] = impl.Step{Op: -1, A: -1}
	}
	first = append(first, impl.Step{Op: -2})
	room := first[:cap(first)]
	for i := range room {
		room[i].A = -3
	}
	if !slices.Equal(second, want) {
		t.Fatal("two answers share memory")
	}
	wantSteps(t, s, want)
	for _, text := range []string{"", "\x00"} {
		one, _ := impl.ReadSteps(text)
		_ = append(one, impl.Step{Op: 7})
		if two, _ := impl.ReadSteps(text); len(two) != 0 {
			t.Fatal("an empty answer was written into")
		}
	}
}

// P21: arguments and the room behind them stay.
func TestStepsGivenStay(t *testing.T) {
	for _, size := range []int{0, 1, 5, 79, 80, 81, 100} {
		whole := manySteps(13, size+20)
		kept := slices.Clone(whole)
		for range 2 {
			impl.ShowSteps(whole[:size])
		}
		if !slices.Equal(whole, kept) {
			t.Fatalf("a list of %d Steps, or the room behind it, is another one", size)
		}
		whole[size/2].A = -1
		kept[size/2].A = -1
		impl.ShowSteps(whole[:size])
		if !slices.Equal(whole, kept) {
			t.Fatalf("a wrong list of %d Steps, or the room behind it, is another one", size)
		}
	}
	list := manySteps(17, 30)
	text := impl.ShowSteps(list)
	shown := strings.Clone(text)
	for i := range list {
		list[i] = impl.Step{Op: impl.SpNop}
	}
	if text != shown {
		t.Fatal("what was shown changes with the list")
	}
}

// P21: whatever is given, each function answers, and answers the same again.
func TestStepsAnswerAtEveryArgument(t *testing.T) {
	for _, a := range manyNumbers() {
		for _, op := range append(manyNumbers()[:40], noOps...) {
			s := impl.Step{Op: op, A: a}
			if impl.StepOk(s) != impl.StepOk(s) || impl.Opens(s) != impl.Opens(s) || impl.Opens(s) && !impl.StepOk(s) {
				t.Fatalf("two answers at %v", s)
			}
			if shown := impl.ShowSteps([]impl.Step{s}); impl.StepOk(s) != (shown != "") || shown != impl.ShowSteps([]impl.Step{s}) {
				t.Fatalf("ShowSteps of %v = %q", s, shown)
			}
		}
	}
	state := uint64(3)
	for range 20000 {
		state = state*6364136223846793005 + 1442695040888963407
		text := make([]byte, state>>60)
		for i := range text {
			state = state*6364136223846793005 + 1442695040888963407
			text[i] = byte(state>>40) >> (state >> 62)
		}
		s := string(text)
		list, is := impl.ReadSteps(s)
		again, too := impl.ReadSteps(s)
		if is != too || !slices.Equal(list, again) || !is && len(list) != 0 {
			t.Fatalf("two answers at %q", s)
		}
		wantAsRead(t, s)
	}
}
