package tests

import (
	"slices"
	"strings"
	"testing"

	"loop.example/g00363/impl"
)

// A plainText is read from its beginning on; it panics with the code of the first fault.
type plainText struct{ rest string }

func (p *plainText) number(least, greatest int64) int64 {
	for i := 0; ; i++ {
		if i == len(p.rest) {
			panic(int64(2))
		}
		if p.rest[i] < 128 {
			break
		}
		if i == 4 {
			panic(int64(3))
		}
	}
	n, size, is := natReading(p.rest)
	if !is || n < least || n > greatest {
		panic(int64(3))
	}
	p.rest = p.rest[size:]
	return n
}

func (p *plainText) piece() string {
	size := p.number(0, greatestWord)
	if int64(len(p.rest)) < size {
		panic(int64(2))
	}
	piece := p.rest[:size]
	p.rest = p.rest[size:]
	return piece
}

// moduleReading says by rules on the bytes alone, and by those of the chapters ahead, what is to be read.
func moduleReading(s string) (m impl.Module, code int64) {
	defer func() {
		if fault := recover(); fault != nil {
			m, code = impl.Module{}, fault.(int64)
		}
	}()
	if !strings.HasPrefix(s, "\x00wsm") {
		return m, 1
	}
	p := &plainText{s[4:]}
	m.Funcs = make([]impl.Func, p.number(1, 4))
	for i := range m.Funcs {
		f := &m.Funcs[i]
		f.Args = p.number(0, 3)
		f.Locals = p.number(0, 3)
		f.Gives = p.number(0, 1)
		list, is := stepsReading(p.piece())
		if !is {
			panic(int64(3))
		}
		f.Body = list
	}
	m.Data = p.piece()
	if len(m.Data) > 64 {
		panic(int64(3))
	}
	if p.rest != "" {
		panic(int64(4))
	}
	return m, 0
}

func wantModule(t *testing.T, s string, want impl.Module) {
	t.Helper()
	if got, code := impl.ReadModule(s); code != impl.MdOk || !sameModule(got, want) {
		t.Fatalf("ReadModule(%q) = %#v, %d, want %#v", s, got, code, want)
	}
}

func wantNoModule(t *testing.T, s string, want int64) {
	t.Helper()
	if got, code := impl.ReadModule(s); code != want || len(got.Funcs) != 0 || got.Data != "" {
		t.Fatalf("ReadModule(%q) = %#v, %d, want the zero Module and %d", s, got, code, want)
	}
}

func wantModuleAsRead(t *testing.T, s string) int64 {
	t.Helper()
	m, code := moduleReading(s)
	if code == impl.MdOk {
		wantModule(t, s, m)
	} else {
		wantNoModule(t, s, code)
	}
	return code
}

// aPart of a module's text is a number, with the greatest that it may be, or what stands behind one that tells its size.
type aPart struct {
	text     string
	isNumber bool
	greatest int64
	isSize   bool
}

// partsOf is the text of a right module behind its first 4 bytes.
func partsOf(m impl.Module) []aPart {
	number := func(n, greatest int64) aPart { return aPart{plainNat(n), true, greatest, false} }
	piece := func(text string) []aPart {
		return []aPart{{plainNat(int64(len(text))), true, greatestWord, true}, {text, false, 0, false}}
	}
	parts := []aPart{number(int64(len(m.Funcs)), 4)}
	for _, f := range m.Funcs {
		parts = append(parts, number(f.Args, 3), number(f.Locals, 3), number(f.Gives, 1))
		parts = append(parts, piece(plainSteps(f.Body))...)
	}
	return append(parts, piece(m.Data)...)
}

func joinedParts(parts []aPart) string {
	text := ""
	for _, p := range parts {
		text += p.text
	}
	return text
}

// atEachNumber hands on, for each number of some right modules, what stands ahead of it, the number, and what stands behind it.
func atEachNumber(each func(ahead string, number aPart, behind string)) {
	var list []impl.Module
	for _, c := range moduleCases() {
		list = append(list, c.module)
	}
	for seed := range uint64(24) {
		list = append(list, aRightModule(seed))
	}
	for _, m := range list {
		parts := partsOf(m)
		for i, p := range parts {
			if p.isNumber {
				each("\x00wsm"+joinedParts(parts[:i]), p, joinedParts(parts[i+1:]))
			}
		}
	}
}

// wantFormWhateverFollows asks for MdForm of a fault with what stands behind it, without, and with something else there.
func wantFormWhateverFollows(t *testing.T, ahead, fault, behind string) {
	t.Helper()
	for _, b := range []string{behind, "", behind + "\x00", "\xff\xff\xff\xff\xff\xff", strings.Repeat("\x00", 90)} {
		wantNoModule(t, ahead+fault+b, impl.MdForm)
	}
}

func TestReadModuleByHand(t *testing.T) {
	for _, c := range moduleCases() {
		wantModule(t, c.text, c.module)
	}
}

// P4.
func TestReadModuleOfShowModule(t *testing.T) {
	for _, m := range rightModules() {
		wantModule(t, impl.ShowModule(m), m)
	}
	for seed := uint64(1000); seed < 1400; seed++ {
		m := aRightModule(seed)
		wantModule(t, impl.ShowModule(m), m)
	}
}

func TestReadModuleOfOtherFirstBytes(t *testing.T) {
	for _, s := range []string{"", "\x00", "\x00w", "\x00ws", "w", "wsm", "wsm\x01\x00\x00\x00\x00\x00", "abc", "abcd", "\x00asm", "\x00asm\x01\x00\x00\x00", "\x00WSM\x01\x00\x00\x00\x00\x00", "\x00\x00wsm\x01", " \x00wsm", "\x00msw", "\x80wsm"} {
		wantNoModule(t, s, impl.MdMagic)
	}
	for _, c := range moduleCases() {
		for at := range 4 {
			wantNoModule(t, c.text[:at], impl.MdMagic)
			wantNoModule(t, c.text[:at]+c.text[at+1:], impl.MdMagic)
			for b := range 256 {
				text := []byte(c.text)
				if text[at] == byte(b) {
					continue
				}
				text[at] = byte(b)
				wantNoModule(t, string(text), impl.MdMagic)
				wantNoModule(t, string(text[:4]), impl.MdMagic)
			}
		}
	}
}

func TestReadModuleCutAtEveryPlace(t *testing.T) {
	wantNoModule(t, "\x00wsm", impl.MdShort)
	list := rightModules()
	for seed := range uint64(100) {
		list = append(list, aRightModule(seed))
	}
	for _, m := range list {
		text := plainModule(m)
		for cut := 4; cut < len(text); cut++ {
			wantNoModule(t, text[:cut], impl.MdShort)
		}
	}
}

func TestReadModuleOfNumbersOutOfRange(t *testing.T) {
	rest := "\x00\x00\x00\x00\x00"
	for _, n := range []int64{0, 5, 6, 127, 128, 256 + 1, 65536 + 4, 4294967295} {
		wantFormWhateverFollows(t, "\x00wsm", plainNat(n), rest)
	}
	wantFormWhateverFollows(t, "\x00wsm", "\x05", strings.Repeat("\x00\x00\x00\x00", 5)+"\x00")
	for _, ahead := range []string{"\x01", "\x01\x03", "\x02\x00\x00\x00\x00", "\x02\x00\x00\x00\x00\x03", "\x04\x03\x03\x01\x01\x0c\x03\x03\x01\x01\x0c\x03\x03\x01\x01\x0c"} {
		wantFormWhateverFollows(t, "\x00wsm"+ahead, "\x04", rest)
	}
	for _, ahead := range []string{"\x01\x00\x00", "\x01\x03\x03", "\x02\x00\x00\x00\x00\x03\x03"} {
		wantFormWhateverFollows(t, "\x00wsm"+ahead, "\x02", rest)
	}
	atEachNumber(func(ahead string, number aPart, behind string) {
		if number.isSize {
			return
		}
		for _, n := range []int64{number.greatest + 1, number.greatest + 2, 63, 64, 127, 128, 256, 16384, 2147483648, greatestWord} {
			wantFormWhateverFollows(t, ahead, plainNat(n), behind)
		}
	})
}

// A number in more bytes than do, one of five bytes that is no word, and one that would have a sixth byte.
func TestReadModuleOfNumbersThatAreNone(t *testing.T) {
	atEachNumber(func(ahead string, number aPart, behind string) {
		once := longer(number.text, 0)
		wantFormWhateverFollows(t, ahead, once, behind)
		wantFormWhateverFollows(t, ahead, longer(once, 0), behind)
		for _, text := range []string{
			"\x80\x00", "\x81\x00", "\x84\x80\x00", "\x81\x80\x80\x00", "\x81\x80\x80\x80\x00",
			"\xff\xff\xff\xff\x10", "\x80\x80\x80\x80\x10", "\x81\x80\x80\x80\x10", "\x80\x80\x80\x80\x20", "\x80\x80\x80\x80\x40", "\xff\xff\xff\xff\x7f",
			"\x80\x80\x80\x80\x80\x00", "\x81\x80\x80\x80\x80\x00", "\x80\x80\x80\x80\x80\x01", "\xff\xff\xff\xff\xff\x0f", "\xff\xff\xff\xff\x8f\x00", "\xff\xff\xff\xff\xff\xff\xff\xff\xff\x01",
			"\x80\x80\x80\x80\x80", "\xff\xff\xff\xff\xff", "\x80\x80\x80\x80\x90", strings.Repeat("\x80", 300),
		} {
			wantFormWhateverFollows(t, ahead, text, behind)
		}
	})
}

func TestReadModuleWhereANumberEnds(t *testing.T) {
	atEachNumber(func(ahead string, number aPart, behind string) {
		wantNoModule(t, ahead, impl.MdShort)
		for _, text := range []string{"\x80", "\x81", "\xff", "\x80\x80", "\xff\xff", "\x80\x80\x80", "\xff\xff\xff", "\x80\x80\x80\x80", "\x81\x80\x80\x80", "\xff\xff\xff\xff"} {
			wantNoModule(t, ahead+text, impl.MdShort)
		}
	})
}

// Whether all bytes are there is asked ahead of what they are and how many.
func TestReadModuleWhereMoreBytesAreToldThanFollow(t *testing.T) {
	atEachNumber(func(ahead string, number aPart, behind string) {
		if !number.isSize {
			return
		}
		follow := int64(len(behind))
		for _, n := range []int64{follow + 1, follow + 2, follow + 65, follow + 500, follow + 70000, 2147483647, 2147483648, greatestWord} {
			wantNoModule(t, ahead+plainNat(n)+behind, impl.MdShort)
		}
	})
	body, data := "\x00wsm\x01\x00\x00\x00", "\x00wsm\x01\x00\x00\x00\x00"
	for _, wrong := range []string{"\x00", "\x15", "\xff\xff", "\x02\x06", "\x01\x80\x80\x80\x80\x08"} {
		wantNoModule(t, body+plainNat(int64(len(wrong))+1)+wrong, impl.MdShort)
		wantNoModule(t, body+"\x7f"+wrong+"\x00", impl.MdShort)
	}
	wantNoModule(t, body+plainNat(82)+strings.Repeat("\x14", 81), impl.MdShort)
	wantNoModule(t, body+plainNat(5000)+strings.Repeat("\x14", 4999), impl.MdShort)
	wantNoModule(t, body+plainNat(greatestWord), impl.MdShort)
	for _, size := range []int{1, 64, 65, 66, 127, 128, 200, 70000} {
		wantNoModule(t, data+plainNat(int64(size))+strings.Repeat("a", size-1), impl.MdShort)
		wantNoModule(t, data+plainNat(int64(size)), impl.MdShort)
	}
	wantNoModule(t, data+plainNat(greatestWord)+strings.Repeat("a", 65), impl.MdShort)
}

func TestReadModuleOfStepsThatAreNone(t *testing.T) {
	wrong := []string{
		"\x00", "\x15", "\xff", "\x02", "\x02\x06", "\x02\x80\x00", "\x05\x00", "\x05\x0d", "\x08\x02", "\x10\x04", "\x11\x80\x02", "\x01", "\x01\x80", "\x01\x80\x00", "\x01\xff\xff\xff\xff\x0f",
		"\x0c\x00", "\x14\x14\x00", "\x00\x0c", "\x06\x00\x0c", "\x02\x00\x02", "\x02\x00\x0c\x0d", strings.Repeat("\x14", 81), strings.Repeat("\x02\x00", 81), strings.Repeat("\x14", 5000),
		strings.Repeat("\x14", 79) + "\x00", strings.Repeat("\x14", 80) + "\x02",
	}
	for _, text := range wrong {
		for _, ahead := range []string{"\x01\x00\x00\x00", "\x01\x03\x03\x01", "\x04\x01\x00\x01", "\x02\x00\x00\x00\x01\x0c\x02\x01\x01"} {
			wantFormWhateverFollows(t, "\x00wsm"+ahead, plainNat(int64(len(text)))+text, "\x00")
		}
	}
}

// A ShowSteps that is cut short by its own size, or takes in what is not its own.
func TestReadModuleWhereTheSizeOfStepsIsAnotherOne(t *testing.T) {
	wantNoModule(t, "\x00wsm\x01\x01\x00\x01\x02\x02\x00\x0c\x00", impl.MdShort)
	wantNoModule(t, "\x00wsm\x01\x01\x00\x01\x01\x02\x00\x0c\x00", impl.MdForm)
	wantNoModule(t, "\x00wsm\x01\x01\x00\x01\x00\x02\x00\x0c\x00", impl.MdMore)
	wantNoModule(t, "\x00wsm\x01\x01\x00\x01\x04\x02\x00\x0c\x00", impl.MdForm)
	wantNoModule(t, "\x00wsm\x01\x01\x00\x01\x05\x02\x00\x0c\x00", impl.MdShort)
	wantModule(t, "\x00wsm\x01\x01\x00\x01\x02\x02\x00\x01\x0c", impl.Module{Funcs: []impl.Func{{Args: 1, Gives: 1, Body: []impl.Step{{Op: impl.SpGet}}}}, Data: "\x0c"})
}

func TestReadModuleOfTooMuchData(t *testing.T) {
	for _, ahead := range []string{"\x01\x00\x00\x00\x00", "\x02\x03\x03\x01\x01\x0c\x00\x00\x00\x00"} {
		for _, size := range []int{65, 66, 127, 128, 256, 300, 70000} {
			data := "\x00wsm" + ahead + plainNat(int64(size)) + manyData(2, size)
			wantNoModule(t, data, impl.MdForm)
			wantNoModule(t, data+"\x00", impl.MdForm)
			wantNoModule(t, data+data, impl.MdForm)
			wantNoModule(t, data[:len(data)-1], impl.MdShort)
		}
	}
}

func TestReadModuleWithBytesBehind(t *testing.T) {
	for _, m := range rightModules() {
		text := plainModule(m)
		for _, more := range []string{"\x00", "x", "\x80", "\xff", "\x00\x00", text, text[4:], strings.Repeat("\x80", 70), strings.Repeat("\x00", 5000)} {
			wantNoModule(t, text+more, impl.MdMore)
		}
	}
	for _, c := range moduleCases() {
		for b := range 256 {
			wantNoModule(t, c.text+string([]byte{byte(b)}), impl.MdMore)
		}
	}
	wantNoModule(t, moduleCases()[0].text+strings.Repeat("a", 300000), impl.MdMore)
}

// Of two faults the earlier one is told.
func TestReadModuleOfTwoFaults(t *testing.T) {
	rows := []struct {
		text string
		code int64
	}{
		{"\x00wsn\x05", impl.MdMagic}, {"\x00wsn", impl.MdMagic}, {"\x01wsm\x01\x00\x00\x00\x00\x00more", impl.MdMagic}, {"wsm\x01\x00\x00\x00\x05\x00", impl.MdMagic},
		{"\x00wsm\x00", impl.MdForm}, {"\x00wsm\x05", impl.MdForm}, {"\x00wsm\x05\x00\x00\x00\x00\x00more", impl.MdForm}, {"\x00wsm\x00\x00", impl.MdForm},
		{"\x00wsm\x01\x04", impl.MdForm}, {"\x00wsm\x01\x00\x04", impl.MdForm}, {"\x00wsm\x01\x00\x00\x02", impl.MdForm}, {"\x00wsm\x01\x00\x00\x02\x05\x00", impl.MdForm},
		{"\x00wsm\x02\x00\x00\x00\x00", impl.MdShort}, {"\x00wsm\x02\x04\x00\x00\x00", impl.MdForm}, {"\x00wsm\x02\x00\x00\x00\x00\x04", impl.MdForm},
		{"\x00wsm\x01\x80\x80", impl.MdShort}, {"\x00wsm\x01\x80\x00", impl.MdForm}, {"\x00wsm\x01\x04\x80", impl.MdForm}, {"\x00wsm\x01\x00\x00\x00\x80", impl.MdShort},
		{"\x00wsm\x01\x00\x00\x00\x01\x00", impl.MdForm}, {"\x00wsm\x01\x00\x00\x00\x02\x00", impl.MdShort}, {"\x00wsm\x01\x00\x00\x00\x01\x15\x05", impl.MdForm}, {"\x00wsm\x01\x00\x00\x00\x01\x15\x00more", impl.MdForm},
		{"\x00wsm\x02\x00\x00\x00\x01\x15\x00\x00\x00\x05", impl.MdForm}, {"\x00wsm\x02\x00\x00\x00\x05\x15\x04\x04\x02", impl.MdShort},
		{"\x00wsm\x01\x00\x00\x00\x00\x80\x00more", impl.MdForm}, {"\x00wsm\x01\x00\x00\x00\x00\x05more", impl.MdShort}, {"\x00wsm\x01\x00\x00\x00\x00\x03more", impl.MdMore},
		{"\x00wsm\x01\x00\x00\x00\x00\x41" + strings.Repeat("a", 64), impl.MdShort}, {"\x00wsm\x01\x00\x00\x00\x00\x41" + strings.Repeat("a", 66), impl.MdForm}, {"\x00wsm\x01\x00\x00\x00\x00\x40" + strings.Repeat("a", 65), impl.MdMore},
		{"\x00wsm\x01\x00\x04\x00\x00\x41" + strings.Repeat("a", 64), impl.MdForm}, {"\x00wsm\x01\x00\x00\x00\x01\x15\x41" + strings.Repeat("a", 64), impl.MdForm},
	}
	for _, r := range rows {
		wantNoModule(t, r.text, r.code)
	}
	atEachNumber(func(ahead string, number aPart, behind string) {
		broken := ahead + "\x80\x00" + behind
		for cut := len(ahead) + 2; cut <= len(broken); cut++ {
			wantNoModule(t, broken[:cut], impl.MdForm)
		}
		for cut := 4; cut < len(ahead)+2; cut++ {
			wantNoModule(t, broken[:cut], impl.MdShort)
		}
		wantNoModule(t, broken+"\x00", impl.MdForm)
		wantNoModule(t, "\x01"+broken[1:], impl.MdMagic)
	})
}

func TestReadModuleOfAllShortEnds(t *testing.T) {
	for _, ahead := range []string{"", "\x01", "\x01\x00", "\x01\x00\x00", "\x01\x00\x00\x00", "\x01\x00\x00\x00\x00", "\x01\x03\x03\x01\x01\x0c", "\x02\x00\x00\x00\x00\x03", "\x01\x00\x00\x00\x80", "\x01\x00\x00\x00\x00\x80\x80\x80"} {
		for a := range 256 {
			wantModuleAsRead(t, "\x00wsm"+ahead+string([]byte{byte(a)}))
			for b := range 256 {
				text := "\x00wsm" + ahead + string([]byte{byte(a), byte(b)})
				wantModuleAsRead(t, text)
				wantModuleAsRead(t, text+"\x00")
				wantModuleAsRead(t, text+"\x00\x00\x00\x00\x00")
			}
		}
	}
}

// otherText is a text one byte of which is another one, or gone, or new, and which may be cut behind it.
func otherText(text string, state uint64) string {
	at := int(state>>8) % len(text)
	b := byte(state >> 50)
	if state>>59%2 == 0 {
		b %= 22
	}
	other := string([]byte{b})
	switch state >> 60 % 4 {
	case 0:
		text = text[:at] + text[at+1:]
	case 1:
		text = text[:at] + other + text[at:]
	default:
		text = text[:at] + other + text[at+1:]
	}
	if state>>62 == 0 {
		text = text[:max(at, int(state>>20)%(len(text)+1))]
	}
	return text
}

// P4, the other way round: a text is read only where it is what ShowModule makes of the Module.
func TestWhatIsReadOfModulesIsWhatIsShown(t *testing.T) {
	state := uint64(23)
	var seen [5]int
	for seed := range uint64(300) {
		m := aRightModule(seed)
		if seed%3 > 0 {
			for i := range m.Funcs {
				m.Funcs[i].Body = m.Funcs[i].Body[:min(len(m.Funcs[i].Body), 3)]
			}
			m.Data = m.Data[:min(len(m.Data), 3)]
		}
		text := plainModule(m)
		for range 150 {
			state = state*6364136223846793005 + 1442695040888963407
			s := otherText(text, state>>1)
			seen[wantModuleAsRead(t, s)]++
			if got, code := impl.ReadModule(s); code == impl.MdOk && impl.ShowModule(got) != s {
				t.Fatalf("ReadModule(%q) = %#v, which shows %q", s, got, impl.ShowModule(got))
			}
		}
	}
	for code, count := range seen {
		if count < 100 {
			t.Errorf("code %d came only %d times", code, count)
		}
	}
}

// overwrite fills the lists of an answer, and the room behind them.
func overwrite(m impl.Module) {
	funcs := m.Funcs[:cap(m.Funcs)]
	for _, f := range funcs {
		body := f.Body[:cap(f.Body)]
		for i := range body {
			body[i] = impl.Step{Op: -1, A: -1}
		}
	}
	for i := range funcs {
		funcs[i] = impl.Func{Args: -1, Locals: -1, Gives: -1}
	}
}

// P21: an answer is new memory.
func TestModulesReadAreNewMemory(t *testing.T) {
	for _, m := range rightModules()[:80] {
		text := plainModule(m)
		kept := strings.Clone(text)
		first, _ := impl.ReadModule(text)
		second, _ := impl.ReadModule(text)
		overwrite(first)
		if !sameModule(second, m) || text != kept {
			t.Fatalf("two answers at %q share memory, or share it with the text", text)
		}
		wantModule(t, text, m)
	}
	for _, text := range []string{"", "\x00wsm", "\x00wsm\x05", moduleCases()[1].text + "x"} {
		got, code := impl.ReadModule(text)
		_ = append(got.Funcs, impl.Func{Args: 7})
		wantNoModule(t, text, code)
	}
}

// P21: no two lists of an answer share any memory, not even behind their ends.
func TestListsOfOneModuleShareNothing(t *testing.T) {
	for seed := range uint64(60) {
		m := aRightModule(seed*4 + 3)
		for i := range m.Funcs {
			got, _ := impl.ReadModule(plainModule(m))
			body := got.Funcs[i].Body[:cap(got.Funcs[i].Body)]
			for at := range body {
				body[at] = impl.Step{Op: -1, A: -1}
			}
			_ = append(got.Funcs[i].Body, impl.Step{Op: -2})
			for j := range m.Funcs {
				if j != i && !slices.Equal(got.Funcs[j].Body, m.Funcs[j].Body) {
					t.Fatalf("Bodies %d and %d share memory", i, j)
				}
			}
			if got.Data != m.Data {
				t.Fatalf("Body %d and Data share memory", i)
			}
		}
	}
}

// P21: a text that was built from bytes is not kept: what is read stays when they change.
func TestWhatIsShownOfModulesStays(t *testing.T) {
	m := copyOfModule(aRightModule(7))
	text := impl.ShowModule(m)
	kept := strings.Clone(text)
	overwrite(m)
	if text != kept {
		t.Fatal("what was shown changes with the module")
	}
	bytes := []byte(kept)
	got, _ := impl.ReadModule(string(bytes))
	for i := range bytes {
		bytes[i] = 0
	}
	if !sameModule(got, aRightModule(7)) {
		t.Fatal("what was read changes with the bytes")
	}
}

// P21: whatever is given, ReadModule answers, and answers the same again.
func TestReadModuleAnswersAtEveryArgument(t *testing.T) {
	state := uint64(31)
	for range 30000 {
		state = state*6364136223846793005 + 1442695040888963407
		text := manyData(state, int(state>>58))
		if state>>57%2 == 0 {
			text = strings.Map(func(r rune) rune { return r % 6 }, text)
		}
		for _, s := range []string{text, "\x00wsm" + text, "\x00wsm\x01" + text, "\x00wsm\x02\x03\x00\x01\x01\x0c" + text, "\x00wsm\x01\x00\x00\x00\x00" + text} {
			wantModuleAsRead(t, s)
			one, code := impl.ReadModule(s)
			two, again := impl.ReadModule(s)
			if code != again || !sameModule(one, two) {
				t.Fatalf("two answers at %q", s)
			}
		}
	}
	for _, s := range []string{strings.Repeat("\x00", 300000), strings.Repeat("\xff", 300000), "\x00wsm" + strings.Repeat("\x01", 300000), "\x00wsm" + strings.Repeat("\x80", 300000), "\x00wsm\x01\x00\x00\x00" + plainNat(300000) + strings.Repeat("\x14", 300000)} {
		wantModuleAsRead(t, s)
	}
}
