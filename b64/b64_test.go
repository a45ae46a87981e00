package b64

import (
	"bytes"
	"encoding/base64"
	"math"
	"math/rand"
	"slices"
	"strings"
	"testing"
	"turnstile/api"
)

// alphabet are the digits 0 to 63, as the chapter lists them.
const alphabet = "ABCDEFGHIJKLMNOPQRSTUVWXYZ" + "abcdefghijklmnopqrstuvwxyz" + "0123456789" + "-" + "_"

// noDigits are bytes that stand close to digits, or that other readers of base64 take or leave out.
const noDigits = "+/=., \t\r\n\x00@[`{:^!~%\x7f\x80\xad\xc1\xe1\xff"

// library is the library's base64url, which refuses bits that are left over.
var library = base64.RawURLEncoding.Strict()

// mixture are n bytes without an order, others for each n.
func mixture(n int) []byte {
	b := make([]byte, n)
	rand.New(rand.NewSource(int64(n) + 1)).Read(b)
	return b
}

// everyText calls f with each of the texts of n digits.
func everyText(n int, f func(s string)) {
	text := make([]byte, n)
	for number := range 1 << (6 * n) {
		for i := range text {
			text[i] = alphabet[number>>(6*i)&63]
		}
		f(string(text))
	}
}

func checkEncode(t *testing.T, b []byte) {
	t.Helper()
	if got, want := Encode(b), library.EncodeToString(b); got != want {
		t.Fatalf("Encode(%x) = %q, not %q", b, got, want)
	}
}

func checkDecode(t *testing.T, s string, want []byte) {
	t.Helper()
	if got, err := Decode(s); !bytes.Equal(got, want) || err != nil {
		t.Fatalf("Decode(%q) = %x, %v, not %x", s, got, err, want)
	}
}

func checkRefused(t *testing.T, s string) {
	t.Helper()
	if got, err := Decode(s); got != nil || err != api.ErrForm {
		t.Fatalf("Decode(%q) = %x, %v", s, got, err)
	}
}

// told are texts told elsewhere: the chapter's examples, RFC 4648's without their padding, and some where each bit counts.
var told = []struct{ bytes, text string }{
	{"light w", "bGlnaHQgdw"},
	{"A", "QQ"},
	{"", ""},
	{"f", "Zg"},
	{"fo", "Zm8"},
	{"foo", "Zm9v"},
	{"foob", "Zm9vYg"},
	{"fooba", "Zm9vYmE"},
	{"foobar", "Zm9vYmFy"},
	{"\x00", "AA"},
	{"\x00\x00", "AAA"},
	{"\x00\x00\x00", "AAAA"},
	{"\x00\x00\x00\x00", "AAAAAA"},
	{"\xff", "_w"},
	{"\xff\xff", "__8"},
	{"\xff\xff\xff", "____"},
	{"\xff\xff\xff\xff", "_____w"},
	{"\x00\x10\x83", "ABCD"},
	{"\xfb\xef\xbe", "----"},
	{"\x14\xfb\x9c\x03\xd9\x7e", "FPucA9l-"},
	{`{"alg":"HS256"}`, "eyJhbGciOiJIUzI1NiJ9"},
}

// BA1, BA2: texts told elsewhere, there and back.
func TestTold(t *testing.T) {
	for _, c := range told {
		if got := Encode([]byte(c.bytes)); got != c.text {
			t.Errorf("Encode(%q) = %q, not %q", c.bytes, got, c.text)
		}
		checkDecode(t, c.text, []byte(c.bytes))
	}
}

// BA2: the chapter's examples of texts that are none.
func TestToldWrong(t *testing.T) {
	for _, s := range []string{"QR", "Q", "QQ=="} {
		checkRefused(t, s)
	}
}

// BA1: of every byte whether it is a digit, and which.
func TestDigitOfEveryByte(t *testing.T) {
	for c := range 256 {
		place := strings.IndexByte(alphabet, byte(c))
		value, ok := Digit(byte(c))
		if ok != (place >= 0) || value != max(place, 0) {
			t.Errorf("Digit(%q) = %d, %v", byte(c), value, ok)
		}
	}
}

// BA1: some digits by their numbers, the first and the last of each kind.
func TestDigitKnown(t *testing.T) {
	for _, c := range []struct {
		digit byte
		value int
	}{{'A', 0}, {'B', 1}, {'Z', 25}, {'a', 26}, {'z', 51}, {'0', 52}, {'9', 61}, {'-', 62}, {'_', 63}} {
		if value, ok := Digit(c.digit); value != c.value || !ok {
			t.Errorf("Digit(%q) = %d, %v", c.digit, value, ok)
		}
	}
}

// BA1: each digit stands for its six bits, at each place of four.
func TestEveryDigitAtEveryPlace(t *testing.T) {
	for value := range 64 {
		for place := range 4 {
			text := []byte("AAAA")
			text[place] = alphabet[value]
			number := value << (18 - 6*place)
			want := []byte{byte(number >> 16), byte(number >> 8), byte(number)}
			if got := Encode(want); got != string(text) {
				t.Errorf("Encode(%x) = %q, not %q", want, got, text)
			}
			checkDecode(t, string(text), want)
		}
	}
}

// BA1: each byte alone, and at each place of three, among noughts and among others.
func TestEncodeEveryByte(t *testing.T) {
	for value := range 256 {
		checkEncode(t, []byte{byte(value)})
		for place := range 3 {
			for _, fill := range []byte{0, 0x5a, 255} {
				three := []byte{fill, fill, fill}
				three[place] = byte(value)
				checkEncode(t, three)
				checkEncode(t, append(three, fill))
				checkEncode(t, three[:2])
			}
		}
	}
}

// BA1: every length up to some hundred, of noughts, of 255 and of any bytes; and long ones.
func TestEncodeEveryLength(t *testing.T) {
	for n := range 300 {
		checkEncode(t, mixture(n))
		checkEncode(t, make([]byte, n))
		checkEncode(t, bytes.Repeat([]byte{255}, n))
	}
	for _, n := range []int{1 << 16, 1<<16 + 1, 1<<20 + 2} {
		checkEncode(t, mixture(n))
	}
}

// BA1: bits that are missing are 0: so is what stands behind the bytes in their room.
func TestEncodeMissingBits(t *testing.T) {
	room := bytes.Repeat([]byte{255}, 8)
	for n, want := range []string{"", "_w", "__8", "____", "_____w", "______8", "________"} {
		if got := Encode(room[:n]); got != want {
			t.Errorf("Encode of %d bytes of a greater room = %q, not %q", n, got, want)
		}
	}
}

// BA1, rule 3: nil is the empty list.
func TestEncodeNothing(t *testing.T) {
	if Encode(nil) != "" || Encode([]byte{}) != "" {
		t.Errorf("Encode of nothing = %q, %q", Encode(nil), Encode([]byte{}))
	}
}

// BA1: the length of a text, by the chapter's words.
func TestLen(t *testing.T) {
	for n, want := range []int{0, 2, 3, 4, 6, 7, 8, 10, 11, 12, 14, 15, 16} {
		if got, err := Len(n); got != want || err != nil {
			t.Errorf("Len(%d) = %d, %v, not %d", n, got, err, want)
		}
	}
	for _, c := range []struct{ n, want int }{
		{1<<20 - 1, 1398100},
		{1 << 20, 1398102},
		{1<<31 - 1, 2863311530},
		{1 << 31, 2863311531},
		{1 << 32, 5726623062},
		{1<<40 - 2, 1466015503699},
		{1<<40 - 1, 1466015503700},
		{1 << 40, 1466015503702},
	} {
		if got, err := Len(c.n); got != c.want || err != nil {
			t.Errorf("Len(%d) = %d, %v, not %d", c.n, got, err, c.want)
		}
	}
}

// BA1: Len tells the length of Encode.
func TestLenOfEncode(t *testing.T) {
	for n := range 1000 {
		if got, err := Len(n); got != len(Encode(make([]byte, n))) || err != nil {
			t.Errorf("Len(%d) = %d, %v", n, got, err)
		}
	}
}

// BA1: numbers below 0 and above 2^40.
func TestLenWrong(t *testing.T) {
	for _, n := range []int{-1, -2, -3, -4, -1 << 40, math.MinInt32, math.MinInt, math.MinInt + 1, 1<<40 + 1, 1<<40 + 2, 1 << 41, 1 << 62, math.MaxInt - 1, math.MaxInt} {
		if got, err := Len(n); got != 0 || err != api.ErrArg {
			t.Errorf("Len(%d) = %d, %v", n, got, err)
		}
	}
}

// BA2: the empty text is no bytes.
func TestDecodeNothing(t *testing.T) {
	checkDecode(t, "", nil)
}

// BA2: texts of every length: no bytes have one that is 1 more than a multiple of 4, whatever its digits.
func TestDecodeEveryLength(t *testing.T) {
	for n := range 300 {
		for _, digit := range []string{"A", "Q", "-", "_"} {
			s := strings.Repeat(digit, n)
			want, err := library.DecodeString(s)
			if n%4 == 1 || err != nil {
				checkRefused(t, s)
				continue
			}
			checkDecode(t, s, want)
		}
		if n%4 != 1 {
			checkDecode(t, strings.Repeat("A", n), make([]byte, n*3/4))
		}
	}
}

// BA2: a byte that is no digit, each of them and at each place, in texts of every length.
func TestDecodeNoDigit(t *testing.T) {
	for n := 1; n <= 12; n++ {
		for place := range n {
			for c := range 256 {
				if strings.IndexByte(alphabet, byte(c)) >= 0 {
					continue
				}
				text := bytes.Repeat([]byte("A"), n)
				text[place] = byte(c)
				checkRefused(t, string(text))
			}
		}
	}
}

// BA2: a byte that is no digit, laid into and around texts that are some: nothing is left out or passed over.
func TestDecodeNothingLeftOut(t *testing.T) {
	for _, whole := range told {
		for place := 0; place <= len(whole.text); place++ {
			for i := range len(noDigits) {
				for times := 1; times <= 4; times++ {
					more := strings.Repeat(noDigits[i:i+1], times)
					checkRefused(t, whole.text[:place]+more+whole.text[place:])
				}
			}
		}
	}
}

// BA2: padding, line ends, standard base64 and characters of more than one byte.
func TestDecodeWrong(t *testing.T) {
	for _, s := range []string{
		"=", "==", "===", "====", "QQ=", "QQ==", "QQ===", "QQA=", "QUJD====", "=QQ", "Q=Q=",
		"QQ\n", "QQ\r\n", "\nQQ", "QU\nJD", "QUJD\n", "QUJD\r\n", " QUJD", "QUJD ", "QU JD",
		"-_+/", "++++", "////", "+/", "AAA+", "AAA/",
		"é", "éé", "AAé", "日A", "😀", "ＡＡ", "A\u212a", "\u017f\u017f",
		"\x00", "\x00\x00", "AA\x00", "AA\x00\x00",
	} {
		checkRefused(t, s)
	}
}

// BA2: two digits leave four bits over, three leave two: they are 0, behind whole groups too.
func TestDecodeBitsLeftOver(t *testing.T) {
	for _, groups := range []string{"", "AAAA", "____", "bGlnaHQg"} {
		ahead, _ := library.DecodeString(groups)
		for value := range 64 {
			digit := alphabet[value : value+1]
			for _, first := range []string{"A", "Q", "_"} {
				checkLastDigit(t, groups+first+digit, value&15 == 0, len(ahead)+1)
				checkLastDigit(t, groups+first+first+digit, value&3 == 0, len(ahead)+2)
				checkLastDigit(t, groups+first+first+first+digit, true, len(ahead)+3)
			}
		}
	}
}

// checkLastDigit checks that a text is taken, for so many bytes, where its last digit may stand there.
func checkLastDigit(t *testing.T, s string, taken bool, size int) {
	t.Helper()
	if !taken {
		checkRefused(t, s)
		return
	}
	want, err := library.DecodeString(s)
	if err != nil || len(want) != size {
		t.Fatalf("the library: %q is %x, %v", s, want, err)
	}
	checkDecode(t, s, want)
}

// BA2: any texts of digits, with and without a byte put among them, as the library reads them.
func TestDecodeAny(t *testing.T) {
	r := rand.New(rand.NewSource(5))
	taken := 0
	for range 20000 {
		text := make([]byte, r.Intn(30))
		for i := range text {
			text[i] = alphabet[r.Intn(64)]
		}
		if r.Intn(4) == 0 && len(text) > 0 {
			// A line end is not put there: the library leaves those out.
			text[r.Intn(len(text))] = "+/= .AQ\xff"[r.Intn(8)]
		}
		want, err := library.DecodeString(string(text))
		if err != nil {
			checkRefused(t, string(text))
			continue
		}
		taken++
		checkDecode(t, string(text), want)
	}
	if taken < 5000 || taken > 15000 {
		t.Errorf("%d texts are taken: they should be some, and not all", taken)
	}
}

// BA3: there and back, for all texts of one and two bytes.
func TestThereAndBackShort(t *testing.T) {
	for number := range 1 << 16 {
		two := []byte{byte(number >> 8), byte(number)}
		checkDecode(t, Encode(two), two)
		checkDecode(t, Encode(two[1:]), two[1:])
	}
}

// BA3: there and back, for texts of every length.
func TestThereAndBack(t *testing.T) {
	for n := range 300 {
		for _, b := range [][]byte{mixture(n), make([]byte, n), bytes.Repeat([]byte{255}, n)} {
			checkDecode(t, Encode(b), b)
		}
	}
	for _, n := range []int{1 << 16, 1<<16 + 1, 1<<20 + 2} {
		checkDecode(t, Encode(mixture(n)), mixture(n))
	}
}

// BA3: back and there, for all texts of none to three digits: of two digits one text for each byte is taken, of three one for each pair of bytes.
func TestBackAndThere(t *testing.T) {
	for n, want := range []int{1, 0, 1 << 8, 1 << 16} {
		seen := map[string]string{}
		everyText(n, func(s string) {
			b, err := Decode(s)
			if err != nil {
				if b != nil || err != api.ErrForm {
					t.Fatalf("Decode(%q) = %x, %v", s, b, err)
				}
				return
			}
			if Encode(b) != s {
				t.Fatalf("Decode(%q) = %x, of which Encode is %q", s, b, Encode(b))
			}
			if other, found := seen[string(b)]; found {
				t.Fatalf("%q and %q are %x", s, other, b)
			}
			seen[string(b)] = s
		})
		if len(seen) != want {
			t.Errorf("%d texts of %d digits are taken, not %d", len(seen), n, want)
		}
	}
}

// BA3: back and there, for any texts of four digits and more.
func TestBackAndThereLong(t *testing.T) {
	r := rand.New(rand.NewSource(6))
	for range 20000 {
		text := make([]byte, 4+r.Intn(30))
		for i := range text {
			text[i] = alphabet[r.Intn(64)]
		}
		if b, err := Decode(string(text)); err == nil && Encode(b) != string(text) {
			t.Fatalf("Decode(%q) = %x, of which Encode is %q", text, b, Encode(b))
		}
	}
}

// Rule 3: what is handed in is not changed, nor what stands in its spare room.
func TestArgumentsStay(t *testing.T) {
	for n := range 20 {
		room := mixture(n + 10)
		before := slices.Clone(room)
		Encode(room[:n])
		if !bytes.Equal(room, before) {
			t.Fatalf("Encode of %d bytes: %x became %x", n, before, room)
		}
	}
}

// Rule 3: what was handed out is its own: no later call and nothing that is done to an argument changes it.
func TestAnswersAreTheirOwn(t *testing.T) {
	for n := range 20 {
		b := mixture(n)
		text := Encode(b)
		want := library.EncodeToString(b)
		for i := range b {
			b[i] ^= 255
		}
		Encode(mixture(n + 1))
		if text != want {
			t.Fatalf("Encode of %d bytes: %q became %q", n, want, text)
		}
		one, _ := Decode(want)
		two, _ := Decode(want)
		room := one[:cap(one)]
		for i := range room {
			room[i] ^= 255
		}
		if !bytes.Equal(two, mixture(n)) {
			t.Fatalf("Decode of %q: another answer became %x", want, two)
		}
		checkDecode(t, want, mixture(n))
	}
}

func BenchmarkEncode(b *testing.B) {
	text := mixture(200)
	for b.Loop() {
		Encode(text)
	}
}

func BenchmarkDecode(b *testing.B) {
	text := Encode(mixture(200))
	for b.Loop() {
		Decode(text)
	}
}
