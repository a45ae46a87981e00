package chars

import (
	"math"
	"math/big"
	"math/rand"
	"slices"
	"strings"
	"testing"
	"turnstile/api"
)

const (
	lettersAndDigits = "ABCDEFGHIJKLMNOPQRSTUVWXYZabcdefghijklmnopqrstuvwxyz0123456789"
	tokenBytes       = lettersAndDigits + "!#$%&'*+-.^_`|~"
)

// has asks by bytes, so that a byte from 128 on is not taken for a rune.
func has(set string, c byte) bool { return strings.IndexByte(set, c) >= 0 }

// everyByte calls f with each of the 256 bytes.
func everyByte(f func(c byte)) {
	for i := range 256 {
		f(byte(i))
	}
}

// CH1: each class, asked of every byte.
func TestClassesOfEveryByte(t *testing.T) {
	everyByte(func(c byte) {
		if got, want := Digit(c), has("0123456789", c); got != want {
			t.Errorf("Digit(%d) = %v", c, got)
		}
		if got, want := Token(c), has(tokenBytes, c); got != want {
			t.Errorf("Token(%d) = %v", c, got)
		}
		n := int(c)
		if got, want := Value(c), n == 9 || 32 <= n && n <= 126 || 128 <= n; got != want {
			t.Errorf("Value(%d) = %v", c, got)
		}
		if got, want := Visible(c), 33 <= n && n <= 126; got != want {
			t.Errorf("Visible(%d) = %v", c, got)
		}
	})
}

// CH1: how many bytes each class has, counted from the chapter's words.
func TestClassesHaveTheirSize(t *testing.T) {
	for _, class := range []struct {
		name string
		of   func(byte) bool
		size int
	}{
		{"Digit", Digit, 10},
		{"Token", Token, 26 + 26 + 10 + 15},
		{"Value", Value, 1 + 95 + 128},
		{"Visible", Visible, 94},
	} {
		n := 0
		everyByte(func(c byte) {
			if class.of(c) {
				n++
			}
		})
		if n != class.size {
			t.Errorf("%s: %d bytes, not %d", class.name, n, class.size)
		}
	}
}

// CH1: a token is one or more token bytes, and nothing else.
func TestIsToken(t *testing.T) {
	for _, s := range []string{"x", "x-y", "GET", "!", "~", "0", tokenBytes, strings.Repeat("a", 1<<16)} {
		if !IsToken(s) {
			t.Errorf("IsToken(%q) = false", s)
		}
	}
	for _, s := range []string{"", " ", "x y", " x", "x ", "x\t", "a:b", "a,b", "a\x00", "\x7f", "\x80", "é", "a\r\n", "(", "a/b", "\"a\"", "@"} {
		if IsToken(s) {
			t.Errorf("IsToken(%q) = true", s)
		}
	}
	everyByte(func(c byte) {
		want := has(tokenBytes, c)
		for _, s := range []string{string([]byte{c}), string([]byte{c, 'a', 'a'}), string([]byte{'a', c, 'a'}), string([]byte{'a', 'a', c})} {
			if IsToken(s) != want {
				t.Errorf("IsToken(%q) = %v", s, !want)
			}
		}
	})
}

// CH1: the value of each hexadecimal digit; 0 and false of every other byte.
func TestHexOfEveryByte(t *testing.T) {
	everyByte(func(c byte) {
		want := strings.IndexByte("0123456789abcdef", c)
		if want < 0 {
			want = strings.IndexByte("0123456789ABCDEF", c)
		}
		is := want >= 0
		want = max(want, 0)
		if n, ok := Hex(c); n != want || ok != is {
			t.Errorf("Hex(%d) = %d, %v", c, n, ok)
		}
	})
}

// read is Decimal or HexNumber, with its base.
type read struct {
	name string
	base int
	of   func(string, int) (int, error)
}

var reads = []read{{"Decimal", 10, Decimal}, {"HexNumber", 16, HexNumber}}

// expect asks for the number, or the error itself with 0 beside it.
func (r read) expect(t *testing.T, s string, most, n int, err error) {
	t.Helper()
	if got, e := r.of(s, most); got != n || e != err {
		t.Errorf("%s(%.40q, %d) = %d, %v; not %d, %v", r.name, s, most, got, e, n, err)
	}
}

// CH2: ordinary numbers of both bases.
func TestNumbers(t *testing.T) {
	decimal, hex := reads[0], reads[1]
	decimal.expect(t, "0", 0, 0, nil)
	decimal.expect(t, "7", 10, 7, nil)
	decimal.expect(t, "10", 10, 10, nil)
	decimal.expect(t, "11", 10, 0, api.ErrRange)
	decimal.expect(t, "1234567890", math.MaxInt, 1234567890, nil)
	decimal.expect(t, "1099511627776", api.MaxLength, api.MaxLength, nil)
	decimal.expect(t, "1099511627777", api.MaxLength, 0, api.ErrRange)
	hex.expect(t, "0", 0, 0, nil)
	hex.expect(t, "fF", 255, 255, nil)
	hex.expect(t, "100", 255, 0, api.ErrRange)
	hex.expect(t, "0123456789", math.MaxInt, 0x123456789, nil)
	hex.expect(t, "abcdef", math.MaxInt, 0xabcdef, nil)
	hex.expect(t, "ABCDEF", math.MaxInt, 0xabcdef, nil)
	hex.expect(t, "10", 16, 16, nil)
}

// CH2: a digit alone may be above most, too.
func TestOneDigitAtEachMost(t *testing.T) {
	const all = "0123456789abcdef"
	for _, r := range reads {
		for d := range r.base {
			for most := range 40 {
				if d > most {
					r.expect(t, all[d:d+1], most, 0, api.ErrRange)
				} else {
					r.expect(t, all[d:d+1], most, d, nil)
				}
			}
		}
	}
}

// CH2: noughts ahead are allowed, however many.
func TestNoughtsAhead(t *testing.T) {
	for _, r := range reads {
		for _, n := range []int{1, 2, 17, 64, 1000, 1 << 20} {
			noughts := strings.Repeat("0", n)
			r.expect(t, noughts, 0, 0, nil)
			r.expect(t, noughts, math.MaxInt, 0, nil)
			r.expect(t, noughts+"7", 10, 7, nil)
			r.expect(t, noughts+"7", 7, 7, nil)
			r.expect(t, noughts+"7", 6, 0, api.ErrRange)
			r.expect(t, noughts+"7", 0, 0, api.ErrRange)
			r.expect(t, noughts+"g", 10, 0, api.ErrForm)
			r.expect(t, noughts+in(math.MaxInt, 0, r.base), math.MaxInt, math.MaxInt, nil)
			r.expect(t, noughts+in(math.MaxInt, 1, r.base), math.MaxInt, 0, api.ErrRange)
		}
	}
}

// in is n and more, in digits of a base; the sum may be above the greatest int.
func in(n, more, base int) string {
	return new(big.Int).Add(big.NewInt(int64(n)), big.NewInt(int64(more))).Text(base)
}

// CH2: at, just below and just above most, up to the greatest int.
func TestAroundMost(t *testing.T) {
	mosts := []int{1, 2, 8, 9, 10, 11, 15, 16, 17, 99, 100, 101, 255, 256, 65535, api.MaxLength, math.MaxInt32, math.MaxInt - 1, math.MaxInt}
	for base := 10; base <= 16; base += 6 {
		for i := range base {
			mosts = append(mosts, math.MaxInt-i, math.MaxInt/base+i, math.MaxInt/base-i)
		}
	}
	for _, r := range reads {
		for _, most := range mosts {
			r.expect(t, in(most, -1, r.base), most, most-1, nil)
			r.expect(t, in(most, 0, r.base), most, most, nil)
			for more := 1; more <= 2*r.base; more++ {
				r.expect(t, in(most, more, r.base), most, 0, api.ErrRange)
			}
			r.expect(t, in(most, 0, r.base)+"0", most, 0, api.ErrRange)
			r.expect(t, in(most, 0, r.base)+strings.Repeat("0", 100), most, 0, api.ErrRange)
		}
	}
}

// CH2: numbers that come round to a small one, or below 0, when an int wraps.
func TestNumbersThatWrap(t *testing.T) {
	for _, r := range reads {
		for shift := uint(31); shift <= 200; shift++ {
			n := new(big.Int).Lsh(big.NewInt(1), shift)
			n.Add(n, big.NewInt(5))
			if n.IsInt64() {
				r.expect(t, n.Text(r.base), math.MaxInt, int(n.Int64()), nil)
			} else {
				r.expect(t, n.Text(r.base), math.MaxInt, 0, api.ErrRange)
			}
			r.expect(t, n.Text(r.base), 10, 0, api.ErrRange)
		}
		r.expect(t, strings.Repeat("9", 1<<16), math.MaxInt, 0, api.ErrRange)
	}
}

// CH2: what is not one or more digits, whatever most is.
func TestNoNumbers(t *testing.T) {
	wrong := []string{"", " ", "+", "-", "+1", "-1", "-0", " 1", "1 ", "\t1", "1\n", "1 1", "1,1", "1_0", "1.0", "1e", "0x1", "0X1", "g", "1g", "G", "1\x00", "\x001", "/", ":", "@", "`", "\u0661", "\xff", "1\x80"}
	for _, r := range reads {
		for _, most := range []int{0, 1, 10, math.MaxInt} {
			for _, s := range wrong {
				if s == "1e" && r.base == 16 {
					continue
				}
				r.expect(t, s, most, 0, api.ErrForm)
			}
		}
	}
	for _, s := range []string{"a", "1a", "A", "f", "00f"} {
		reads[0].expect(t, s, math.MaxInt, 0, api.ErrForm)
	}
}

// CH2: each byte, alone and at each place of a text.
func TestEveryByteInNumbers(t *testing.T) {
	for _, r := range reads {
		everyByte(func(c byte) {
			d := strings.IndexByte("0123456789abcdef"[:r.base], c)
			if d < 0 && r.base == 16 && has("ABCDEF", c) {
				d = strings.IndexByte("ABCDEF", c) + 10
			}
			if d < 0 {
				for _, s := range []string{string([]byte{c}), string([]byte{c, '1', '1'}), string([]byte{'1', c, '1'}), string([]byte{'1', '1', c})} {
					r.expect(t, s, math.MaxInt, 0, api.ErrForm)
				}
				return
			}
			b := r.base
			r.expect(t, string([]byte{c}), b, d, nil)
			r.expect(t, string([]byte{c, '0', '1'}), math.MaxInt, d*b*b+1, nil)
			r.expect(t, string([]byte{'1', c, '1'}), math.MaxInt, b*b+d*b+1, nil)
			r.expect(t, string([]byte{'1', '1', c}), math.MaxInt, b*b+b+d, nil)
		})
	}
}

// CH2: ErrArg is told ahead of ErrForm, ErrForm ahead of ErrRange, wherever the byte that is no digit stands.
func TestOrderOfErrors(t *testing.T) {
	for _, r := range reads {
		for _, most := range []int{-1, -2, -10, math.MinInt + 1, math.MinInt} {
			for _, s := range []string{"", "0", "1", "x", "-1", strings.Repeat("9", 99)} {
				r.expect(t, s, most, 0, api.ErrArg)
			}
		}
		r.expect(t, "99x", 10, 0, api.ErrForm)
		r.expect(t, "9x9", 1, 0, api.ErrForm)
		r.expect(t, "1x", 0, 0, api.ErrForm)
		r.expect(t, strings.Repeat("9", 1000)+" ", math.MaxInt, 0, api.ErrForm)
	}
}

// CH2: many numbers, held against whole numbers without bounds.
func TestNumbersAgainstBig(t *testing.T) {
	rng := rand.New(rand.NewSource(1))
	for _, r := range reads {
		digits := "0123456789abcdefABCDEF"
		if r.base == 10 {
			digits = digits[:10]
		}
		for range 20000 {
			b := make([]byte, 1+rng.Intn(22))
			for i := range b {
				b[i] = digits[rng.Intn(len(digits))]
			}
			most := rng.Int() >> rng.Intn(63)
			n, _ := new(big.Int).SetString(string(b), r.base)
			if n.Cmp(big.NewInt(int64(most))) > 0 {
				r.expect(t, string(b), most, 0, api.ErrRange)
			} else {
				r.expect(t, string(b), most, int(n.Int64()), nil)
			}
		}
	}
}

// ints are numbers at the edges, and many of each size, below 0 too.
func ints() []int {
	l := []int{0, math.MaxInt, math.MaxInt - 1, math.MinInt, math.MinInt + 1}
	for shift := range 63 {
		for d := -1; d <= 1; d++ {
			l = append(l, 1<<shift+d, -(1<<shift)+d)
		}
	}
	rng := rand.New(rand.NewSource(2))
	for range 5000 {
		n := rng.Int() >> rng.Intn(63)
		l = append(l, n, -n)
	}
	return l
}

// CH3: decimal texts, of the least int too.
func TestText(t *testing.T) {
	for _, c := range []struct {
		n    int
		want string
	}{
		{0, "0"}, {1, "1"}, {9, "9"}, {10, "10"}, {100, "100"}, {1020, "1020"},
		{-1, "-1"}, {-10, "-10"}, {-907, "-907"},
		{math.MaxInt64, "9223372036854775807"}, {math.MinInt64, "-9223372036854775808"}, {math.MinInt64 + 1, "-9223372036854775807"},
	} {
		if got := Text(c.n); got != c.want {
			t.Errorf("Text(%d) = %q", c.n, got)
		}
	}
	for _, n := range ints() {
		if got := Text(n); got != in(n, 0, 10) {
			t.Errorf("Text(%d) = %q", n, got)
		}
	}
}

// CH3: hexadecimal texts; ErrArg and nothing below 0.
func TestHexText(t *testing.T) {
	for _, c := range []struct {
		n    int
		want string
	}{
		{0, "0"}, {9, "9"}, {10, "a"}, {15, "f"}, {16, "10"}, {255, "ff"}, {256, "100"}, {0xabcdef, "abcdef"}, {math.MaxInt64, "7fffffffffffffff"},
	} {
		if got, err := HexText(c.n); got != c.want || err != nil {
			t.Errorf("HexText(%d) = %q, %v", c.n, got, err)
		}
	}
	for _, n := range ints() {
		want, wantErr := "", error(api.ErrArg)
		if n >= 0 {
			want, wantErr = in(n, 0, 16), nil
		}
		if got, err := HexText(n); got != want || err != wantErr {
			t.Errorf("HexText(%d) = %q, %v", n, got, err)
		}
	}
}

// lowerOf is the small letter of a great one, else the byte, by the alphabet written out.
func lowerOf(c byte) byte {
	if i := strings.IndexByte(lettersAndDigits[:26], c); i >= 0 {
		return lettersAndDigits[26+i]
	}
	return c
}

// CH4: every byte in small, and no other byte changed, UTF-8 or not.
func TestLower(t *testing.T) {
	for s, want := range map[string]string{
		"":               "",
		"abc":            "abc",
		"ABC":            "abc",
		"Content-Length": "content-length",
		"A1_Z@[`{":       "a1_z@[`{",
		"ÄÉ\u212a\u0130": "ÄÉ\u212a\u0130",
		"\xffA\xc3":      "\xffa\xc3",
		"A\x00B":         "a\x00b",
	} {
		if got := Lower(s); got != want {
			t.Errorf("Lower(%q) = %q", s, got)
		}
	}
	everyByte(func(c byte) {
		if got, want := Lower(string([]byte{c, 'X', c})), string([]byte{lowerOf(c), 'x', lowerOf(c)}); got != want {
			t.Errorf("Lower of the byte %d: %q", c, got)
		}
	})
}

// CH4: likeness of each two bytes, and of longer texts.
func TestSame(t *testing.T) {
	everyByte(func(a byte) {
		everyByte(func(b byte) {
			want := lowerOf(a) == lowerOf(b)
			if Same(string([]byte{'x', a}), string([]byte{'X', b})) != want {
				t.Errorf("Same of the bytes %d and %d is %v", a, b, !want)
			}
		})
	})
	for _, c := range []struct {
		a, b string
		want bool
	}{
		{"", "", true}, {"", "a", false}, {"a", "", false}, {"host", "HOST", true}, {"Host", "Hos", false}, {"Hos", "Host", false},
		{"Host", "Hosts", false}, {"ab", "ac", false}, {"ab", "cb", false}, {"ä", "Ä", false}, {"k", "\u212a", false}, {"a ", "a", false},
		{"\xff", "\xfe", false}, {"\xff", "\ufffd", false}, {"[", "{", false}, {"@", "`", false},
	} {
		if Same(c.a, c.b) != c.want || Same(c.b, c.a) != c.want {
			t.Errorf("Same(%q, %q) is not %v", c.a, c.b, c.want)
		}
	}
}

// CH4: blanks of both kinds go at both ends, and nothing else does.
func TestTrim(t *testing.T) {
	for s, want := range map[string]string{
		"":                  "",
		" ":                 "",
		"\t":                "",
		" \t \t":            "",
		"a":                 "a",
		" a":                "a",
		"a ":                "a",
		"\ta":               "a",
		"a\t":               "a",
		" \t\t a \t b\t \t": "a \t b",
		"\ra\n":             "\ra\n",
		" \n ":              "\n",
		"\va\f":             "\va\f",
		"\u00a0a\u2003":     "\u00a0a\u2003",
		"\x00 ":             "\x00",
	} {
		if got := Trim(s); got != want {
			t.Errorf("Trim(%q) = %q", s, got)
		}
	}
	everyByte(func(c byte) {
		s, want := string([]byte{c, 'a', c, 'a', c}), string([]byte{c, 'a', c, 'a', c})
		if c == 9 || c == 32 {
			want = string([]byte{'a', c, 'a'})
		}
		if got := Trim(s); got != want {
			t.Errorf("Trim(%q) = %q", s, got)
		}
	})
}

// CH4: pieces between commas, trimmed; empty ones are left out.
func TestList(t *testing.T) {
	for _, c := range []struct {
		s    string
		want []string
	}{
		{"", nil}, {" ", nil}, {",", nil}, {",,,", nil}, {" ,\t, \t,", nil},
		{"a", []string{"a"}}, {" a ", []string{"a"}}, {"a,", []string{"a"}}, {",a", []string{"a"}},
		{" a, ,b ", []string{"a", "b"}}, {"a,b,c", []string{"a", "b", "c"}}, {"\ta\t,\tb\t", []string{"a", "b"}},
		{"b,a,b", []string{"b", "a", "b"}}, {"a b,c\td", []string{"a b", "c\td"}}, {"a;b", []string{"a;b"}},
		{"\"a,b\"", []string{"\"a", "b\""}}, {"a,\n,b", []string{"a", "\n", "b"}}, {"A,\xff, é", []string{"A", "\xff", "é"}},
	} {
		if got := List(c.s); !slices.Equal(got, c.want) {
			t.Errorf("List(%q) = %q", c.s, got)
		}
	}
	if got := List(strings.Repeat(",", 1<<16) + "x" + strings.Repeat(" ,", 1<<16)); !slices.Equal(got, []string{"x"}) {
		t.Errorf("List of many commas has %d elements", len(got))
	}
	if got := List(strings.Repeat("x,", 1000)); len(got) != 1000 {
		t.Errorf("List of 1000 elements has %d", len(got))
	}
}

// CH4: two answers of List are lists of their own, spare room too.
func TestListIsNew(t *testing.T) {
	a, b := List("a,b,c"), List("a,b,c")
	a[0] = "x"
	_ = append(a[:1], "y", "z", "w")
	if !slices.Equal(b, []string{"a", "b", "c"}) || !slices.Equal(List("a,b,c"), b) {
		t.Errorf("List changed to %q", b)
	}
}

// CH5: numbers come back from their texts, at the least most that lets them through.
func TestNumbersComeBack(t *testing.T) {
	for _, n := range ints() {
		if n < 0 {
			reads[0].expect(t, Text(n), math.MaxInt, 0, api.ErrForm)
			continue
		}
		reads[0].expect(t, Text(n), n, n, nil)
		reads[0].expect(t, Text(n), math.MaxInt, n, nil)
		s, err := HexText(n)
		if err != nil {
			t.Fatalf("HexText(%d): %v", n, err)
		}
		reads[1].expect(t, s, n, n, nil)
		reads[1].expect(t, strings.ToUpper(s), math.MaxInt, n, nil)
	}
}

// CH5: what is small is small already, what is trimmed is trimmed already; lists are of trimmed pieces.
func TestTwiceIsOnce(t *testing.T) {
	rng := rand.New(rand.NewSource(3))
	const some = " \t,,aZ-\x00\xc3\xa4\n"
	for range 20000 {
		b := make([]byte, rng.Intn(12))
		for i := range b {
			b[i] = some[rng.Intn(len(some))]
		}
		s := string(b)
		if l := Lower(s); Lower(l) != l || !Same(s, l) || len(l) != len(s) {
			t.Fatalf("Lower(%q) = %q", s, l)
		}
		if got, want := Trim(s), strings.Trim(s, " \t"); got != want || Trim(got) != got {
			t.Fatalf("Trim(%q) = %q", s, got)
		}
		l := List(s)
		for _, e := range l {
			if e == "" || Trim(e) != e || strings.Contains(e, ",") {
				t.Fatalf("List(%q) = %q", s, l)
			}
		}
		if again := List(strings.Join(l, " ,\t")); !slices.Equal(again, l) {
			t.Fatalf("List(%q) = %q, then %q", s, l, again)
		}
	}
}
