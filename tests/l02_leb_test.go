package tests

import (
	"strings"
	"testing"

	"loop.example/g00363/impl"
)

// aNumberCase is a number and its bytes, written out by hand.
type aNumberCase struct {
	n    int64
	text string
}

var natCases = []aNumberCase{
	{0, "\x00"}, {1, "\x01"}, {2, "\x02"}, {63, "\x3f"}, {64, "\x40"}, {126, "\x7e"}, {127, "\x7f"},
	{128, "\x80\x01"}, {129, "\x81\x01"}, {255, "\xff\x01"}, {256, "\x80\x02"}, {300, "\xac\x02"}, {16382, "\xfe\x7f"}, {16383, "\xff\x7f"},
	{16384, "\x80\x80\x01"}, {16385, "\x81\x80\x01"}, {65536, "\x80\x80\x04"}, {624485, "\xe5\x8e\x26"}, {2097151, "\xff\xff\x7f"},
	{2097152, "\x80\x80\x80\x01"}, {268435455, "\xff\xff\xff\x7f"},
	{268435456, "\x80\x80\x80\x80\x01"}, {2147483647, "\xff\xff\xff\xff\x07"}, {signBit, "\x80\x80\x80\x80\x08"},
	{4294967294, "\xfe\xff\xff\xff\x0f"}, {greatestWord, "\xff\xff\xff\xff\x0f"},
}

var intCases = []aNumberCase{
	{0, "\x00"}, {1, "\x01"}, {-1, "\x7f"}, {2, "\x02"}, {-2, "\x7e"}, {62, "\x3e"}, {63, "\x3f"}, {-63, "\x41"}, {-64, "\x40"},
	{64, "\xc0\x00"}, {-65, "\xbf\x7f"}, {127, "\xff\x00"}, {128, "\x80\x01"}, {-127, "\x81\x7f"}, {-128, "\x80\x7f"}, {-129, "\xff\x7e"},
	{8191, "\xff\x3f"}, {-8192, "\x80\x40"},
	{8192, "\x80\xc0\x00"}, {-8193, "\xff\xbf\x7f"}, {-123456, "\xc0\xbb\x78"}, {1048575, "\xff\xff\x3f"}, {-1048576, "\x80\x80\x40"},
	{1048576, "\x80\x80\xc0\x00"}, {-1048577, "\xff\xff\xbf\x7f"}, {134217727, "\xff\xff\xff\x3f"}, {-134217728, "\x80\x80\x80\x40"},
	{134217728, "\x80\x80\x80\xc0\x00"}, {-134217729, "\xff\xff\xff\xbf\x7f"},
	{2147483646, "\xfe\xff\xff\xff\x07"}, {2147483647, "\xff\xff\xff\xff\x07"}, {-2147483647, "\x81\x80\x80\x80\x78"}, {-2147483648, "\x80\x80\x80\x80\x78"},
}

var noSigned = []int64{
	2147483648, -2147483649, 2147483649, -2147483650, greatestWord, 4294967296, -4294967296, 34359738367, -34359738368,
	leastInt, leastInt + 1, greatestInt, greatestInt - 1,
}

// manySigned are the signed numbers of manyWords and those around each power of 2.
func manySigned() []int64 {
	var list []int64
	for _, w := range manyWords() {
		list = append(list, plainSigned(w))
	}
	for power := int64(1); power < signBit; power *= 2 {
		list = append(list, power-1, power, -power, -power-1)
	}
	return list
}

func manyNats() []int64 {
	list := manyWords()
	for power := int64(1); power < 4294967296; power *= 2 {
		list = append(list, power-1, power, power+1)
	}
	return list
}

// plainNat divides again and again, as one does by hand.
func plainNat(n int64) string {
	var text []byte
	for n >= 128 {
		text = append(text, byte(n%128+128))
		n /= 128
	}
	return string(append(text, byte(n)))
}

// plainInt looks for the fewest sevens that have room for n and its sign, then tells the number that is 2^(7 count) more where n is below 0.
func plainInt(n int64) string {
	count, room := 1, int64(64)
	for n >= room || n < -room {
		count, room = count+1, room*128
	}
	if n < 0 {
		n += 2 * room
	}
	text := make([]byte, count)
	for i := range text {
		text[i] = byte(n % 128)
		if i < count-1 {
			text[i] += 128
		}
		n /= 128
	}
	return string(text)
}

// cutAtLast is what stands at the beginning of s up to its first byte below 128, or nothing where there is none within 5 bytes.
func cutAtLast(s string) string {
	for i := range min(len(s), 5) {
		if s[i] < 128 {
			return s[:i+1]
		}
	}
	return ""
}

func plainSum(s string) int64 {
	sum, weight := int64(0), int64(1)
	for i := range len(s) {
		sum += int64(s[i]%128) * weight
		weight *= 128
	}
	return sum
}

// natReading says by rules on the bytes alone what is to be read: the last byte adds something, and a fifth one is below 16.
func natReading(s string) (int64, int64, bool) {
	text := cutAtLast(s)
	size := len(text)
	if size == 0 || size > 1 && text[size-1] == 0 || size == 5 && text[4] > 15 {
		return 0, 0, false
	}
	return plainSum(text), int64(size), true
}

// intReading likewise: the last byte is not just the sign that the one ahead of it tells already, and a fifth one has its upper four bits alike.
func intReading(s string) (int64, int64, bool) {
	text := cutAtLast(s)
	size := len(text)
	if size == 0 {
		return 0, 0, false
	}
	last := text[size-1]
	if size > 1 {
		below := text[size-2]&64 != 0
		if last == 0 && !below || last == 127 && below {
			return 0, 0, false
		}
	}
	if size == 5 && last > 7 && last < 120 {
		return 0, 0, false
	}
	sum := plainSum(text)
	if last >= 64 {
		sum -= int64(1) << (7 * size)
	}
	return sum, int64(size), true
}

type reader func(string, int64) (int64, int64, bool)

func wantReading(t *testing.T, name string, read reader, s string, at, n, end int64, is bool) {
	t.Helper()
	gotN, gotEnd, gotIs := read(s, at)
	if gotN != n || gotEnd != end || gotIs != is {
		t.Fatalf("%s(%q, %d) = %d, %d, %v, want %d, %d, %v", name, s, at, gotN, gotEnd, gotIs, n, end, is)
	}
}

// wantEverywhere reads text at the beginning, in the middle and at the end, with bytes around that would fit to it.
func wantEverywhere(t *testing.T, name string, read reader, text string, n int64) {
	t.Helper()
	size := int64(len(text))
	arounds := []string{"", "\x00", "\x01", "\x7f", "\x80", "\xff", "a", "\x80\x80\x80\x80\x80\x80", "\xff\xff\xff\xff\x0f", "\xc0\x00x"}
	for _, ahead := range arounds {
		for _, behind := range arounds {
			at := int64(len(ahead))
			wantReading(t, name, read, ahead+text+behind, at, n, at+size, true)
		}
	}
}

func TestShowNat(t *testing.T) {
	for _, c := range natCases {
		if got := impl.ShowNat(c.n); got != c.text {
			t.Errorf("ShowNat(%d) = %q, want %q", c.n, got, c.text)
		}
	}
	for _, n := range manyNats() {
		if got := impl.ShowNat(n); got != plainNat(n) {
			t.Errorf("ShowNat(%d) = %q, want %q", n, got, plainNat(n))
		}
	}
	for n := range int64(40000) {
		if got := impl.ShowNat(n); got != plainNat(n) {
			t.Fatalf("ShowNat(%d) = %q, want %q", n, got, plainNat(n))
		}
	}
}

func TestShowNatOfNoWord(t *testing.T) {
	for _, n := range noWords {
		if got := impl.ShowNat(n); got != "" {
			t.Errorf("ShowNat(%d) = %q, want nothing", n, got)
		}
	}
}

func TestShowInt(t *testing.T) {
	for _, c := range intCases {
		if got := impl.ShowInt(c.n); got != c.text {
			t.Errorf("ShowInt(%d) = %q, want %q", c.n, got, c.text)
		}
	}
	for _, n := range manySigned() {
		if got := impl.ShowInt(n); got != plainInt(n) {
			t.Errorf("ShowInt(%d) = %q, want %q", n, got, plainInt(n))
		}
	}
	for n := int64(-20000); n <= 20000; n++ {
		if got := impl.ShowInt(n); got != plainInt(n) {
			t.Fatalf("ShowInt(%d) = %q, want %q", n, got, plainInt(n))
		}
	}
}

func TestShowIntOfOthers(t *testing.T) {
	for _, n := range noSigned {
		if got := impl.ShowInt(n); got != "" {
			t.Errorf("ShowInt(%d) = %q, want nothing", n, got)
		}
	}
}

// P2, its first half, wherever in a text it stands.
func TestReadNatOfShowNat(t *testing.T) {
	for _, c := range natCases {
		wantEverywhere(t, "ReadNat", impl.ReadNat, c.text, c.n)
	}
	for _, n := range manyNats() {
		wantEverywhere(t, "ReadNat", impl.ReadNat, impl.ShowNat(n), n)
	}
}

func TestReadIntOfShowInt(t *testing.T) {
	for _, c := range intCases {
		wantEverywhere(t, "ReadInt", impl.ReadInt, c.text, c.n)
	}
	for _, n := range manySigned() {
		wantEverywhere(t, "ReadInt", impl.ReadInt, impl.ShowInt(n), n)
	}
}

// P2, its second half: what is shown is not to be read when its end is cut off, and no text read is longer than what is shown.
func TestNothingShorterIsRead(t *testing.T) {
	for _, n := range manyNats() {
		text := impl.ShowNat(n)
		for cut := range len(text) {
			wantReading(t, "ReadNat", impl.ReadNat, text[:cut], 0, 0, 0, false)
			wantReading(t, "ReadNat", impl.ReadNat, "ab"+text[:cut], 2, 0, 0, false)
		}
	}
	for _, n := range manySigned() {
		text := impl.ShowInt(n)
		for cut := range len(text) {
			wantReading(t, "ReadInt", impl.ReadInt, text[:cut], 0, 0, 0, false)
			wantReading(t, "ReadInt", impl.ReadInt, "ab"+text[:cut], 2, 0, 0, false)
		}
	}
}

// longer writes the same number with one byte more, which adds nothing.
func longer(text string, last byte) string {
	bytes := []byte(text)
	bytes[len(bytes)-1] += 128
	return string(append(bytes, last))
}

func TestOneByteMoreThanDo(t *testing.T) {
	for _, n := range manyNats() {
		once := longer(impl.ShowNat(n), 0)
		wantReading(t, "ReadNat", impl.ReadNat, once, 0, 0, 0, false)
		wantReading(t, "ReadNat", impl.ReadNat, "\x05"+longer(once, 0)+"\x05", 1, 0, 0, false)
	}
	for _, n := range manySigned() {
		sign := byte(0)
		if n < 0 {
			sign = 127
		}
		once := longer(impl.ShowInt(n), sign)
		wantReading(t, "ReadInt", impl.ReadInt, once, 0, 0, 0, false)
		wantReading(t, "ReadInt", impl.ReadInt, "\x05"+longer(once, sign)+"\x05", 1, 0, 0, false)
	}
}

func TestReadNatOfWrongTexts(t *testing.T) {
	texts := []string{
		"", "\x80", "\xff", "\x80\x80", "\xff\xff\xff\xff", "\xff\xff\xff\xff\xff", "\x80\x00", "\xff\x00", "\x80\x80\x00", "\xff\xff\xff\xff\x00",
		"\xff\xff\xff\xff\x10", "\x80\x80\x80\x80\x10", "\xff\xff\xff\xff\x1f", "\xff\xff\xff\xff\x20", "\xff\xff\xff\xff\x40", "\xff\xff\xff\xff\x7f", "\x80\x80\x80\x80\x70",
		"\xff\xff\xff\xff\x8f\x00", "\x80\x80\x80\x80\x80\x00", "\x80\x80\x80\x80\x80\x01", "\xff\xff\xff\xff\xff\x0f", strings.Repeat("\x80", 9) + "\x01", strings.Repeat("\xff", 100000) + "\x01",
	}
	for _, s := range texts {
		wantReading(t, "ReadNat", impl.ReadNat, s, 0, 0, 0, false)
		wantReading(t, "ReadNat", impl.ReadNat, "a\x01"+s, 2, 0, 0, false)
	}
}

func TestReadIntOfWrongTexts(t *testing.T) {
	texts := []string{
		"", "\x80", "\xff", "\x80\x80", "\xff\xff\xff\xff", "\xff\xff\xff\xff\xff", "\x80\x00", "\xff\x7f", "\xbf\x00", "\xc0\x7f", "\x80\x80\x00", "\xff\xff\x7f", "\xff\xff\xff\xff\x7f",
		"\xff\xff\xff\xff\x08", "\xff\xff\xff\xff\x0f", "\x80\x80\x80\x80\x08", "\x80\x80\x80\x80\x0f", "\xff\xff\xff\xff\x17", "\xff\xff\xff\xff\x27", "\xff\xff\xff\xff\x3f",
		"\x80\x80\x80\x80\x40", "\x80\x80\x80\x80\x70", "\x80\x80\x80\x80\x77", "\x80\x80\x80\x80\x68", "\x80\x80\x80\x80\x58", "\x80\x80\x80\x80\x38", "\xff\xff\xff\xff\x47",
		"\xff\xff\xff\xff\x87\x00", "\x80\x80\x80\x80\xf8\x7f", "\x80\x80\x80\x80\x80\x00", "\x80\x80\x80\x80\x80\x01", "\xff\xff\xff\xff\xff\x7f",
		strings.Repeat("\x80", 9) + "\x01", strings.Repeat("\xff", 9) + "\x7f", strings.Repeat("\xff", 100000) + "\x01",
	}
	for _, s := range texts {
		wantReading(t, "ReadInt", impl.ReadInt, s, 0, 0, 0, false)
		wantReading(t, "ReadInt", impl.ReadInt, "a\x01"+s, 2, 0, 0, false)
	}
}

func wantBothReadings(t *testing.T, s string) {
	t.Helper()
	n, end, is := natReading(s)
	wantReading(t, "ReadNat", impl.ReadNat, s, 0, n, end, is)
	n, end, is = intReading(s)
	wantReading(t, "ReadInt", impl.ReadInt, s, 0, n, end, is)
}

func TestAllShortTexts(t *testing.T) {
	for a := range 256 {
		wantBothReadings(t, string([]byte{byte(a)}))
		for b := range 256 {
			wantBothReadings(t, string([]byte{byte(a), byte(b)}))
			for _, c := range []byte{0, 1, 63, 64, 126, 127, 128, 191, 192, 255} {
				wantBothReadings(t, string([]byte{byte(a), byte(b), c}))
			}
		}
	}
}

// The fourth and the fifth byte in all ways, since there the bits end that a word has.
func TestAllFifthBytes(t *testing.T) {
	for _, ahead := range []string{"\x80\x80\x80", "\xff\xff\xff", "\x81\xc0\xbf", "\xff\xff\x7f", "\xff\xff\x00"} {
		for a := range 256 {
			for b := range 256 {
				text := ahead + string([]byte{byte(a), byte(b)})
				wantBothReadings(t, text)
				wantBothReadings(t, text+"\x00")
				wantBothReadings(t, text+"\x01")
			}
		}
	}
}

// A text that is read is the very one that is shown: nothing else stands for the number.
func TestWhatIsReadIsWhatIsShown(t *testing.T) {
	state := uint64(5)
	for range 20000 {
		var text []byte
		for range 7 {
			state = state*6364136223846793005 + 1442695040888963407
			text = append(text, byte(state>>40)|byte(state>>56)&128)
		}
		s := string(text)
		for at := range int64(len(s)) {
			if n, end, is := impl.ReadNat(s, at); is && impl.ShowNat(n) != s[at:end] {
				t.Fatalf("ReadNat(%q, %d) = %d, %d", s, at, n, end)
			}
			if n, end, is := impl.ReadInt(s, at); is && impl.ShowInt(n) != s[at:end] {
				t.Fatalf("ReadInt(%q, %d) = %d, %d", s, at, n, end)
			}
		}
	}
}

func TestReadAtPlacesOutside(t *testing.T) {
	for _, s := range []string{"", "\x00", "\x05", "\x80", "\xac\x02", "\x01\x02\x03\x04\x05\x06", "\xff\xff\xff\xff\x0f", "\xff\xff\xff\xff\x07"} {
		size := int64(len(s))
		for _, at := range []int64{-1, -2, -5, size, size + 1, size + 2, -size - 1, 4294967296, -4294967296, greatestInt, greatestInt - 1, greatestInt - 4, leastInt, leastInt + 1} {
			wantReading(t, "ReadNat", impl.ReadNat, s, at, 0, 0, false)
			wantReading(t, "ReadInt", impl.ReadInt, s, at, 0, 0, false)
		}
	}
	wantReading(t, "ReadNat", impl.ReadNat, "\xac\x02", 1, 2, 2, true)
	wantReading(t, "ReadInt", impl.ReadInt, "\xac\x7e", 1, -2, 2, true)
}

// P21: whatever is given, each function answers, and answers the same again; a text is as it was.
func TestNumbersInBytesAnswerAtEveryArgument(t *testing.T) {
	numbers := append(manyNumbers(), noSigned...)
	texts := []string{"", "\x00", "\x7f", "\x80", "\xff", "\xac\x02", "\xff\xff\xff\xff\x0f", strings.Repeat("\x80", 12), strings.Repeat("\xff", 12), "\u00e9\u4e16", "abc"}
	for _, n := range numbers {
		if impl.ShowNat(n) != impl.ShowNat(n) || impl.ShowInt(n) != impl.ShowInt(n) {
			t.Fatalf("two answers at %d", n)
		}
		if impl.WordOk(n) != (impl.ShowNat(n) != "") || (n >= -signBit && n < signBit) != (impl.ShowInt(n) != "") {
			t.Fatalf("shown where it is none, or not where it is one: %d", n)
		}
		for _, s := range texts {
			kept := strings.Clone(s)
			for _, read := range []reader{impl.ReadNat, impl.ReadInt} {
				v, end, is := read(s, n)
				w, again, too := read(s, n)
				if v != w || end != again || is != too || !is && (v != 0 || end != 0) || s != kept {
					t.Fatalf("two answers at %q, %d", s, n)
				}
			}
		}
	}
}
