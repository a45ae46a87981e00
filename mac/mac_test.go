package mac

import (
	"bytes"
	"crypto/hmac"
	"crypto/sha256"
	"encoding/hex"
	"math/rand"
	"strings"
	"testing"
	"time"
)

// keyEdges are lengths at which a key is filled, fits, or is summed.
var keyEdges = []int{0, 1, 2, 31, 32, 33, 63, 64, 65, 66, 127, 128, 129, 1000}

// textEdges are lengths at which a text, or the key's block with it, fills blocks in another way.
var textEdges = []int{0, 1, 54, 55, 56, 57, 63, 64, 65, 118, 119, 120, 121, 127, 128, 129}

// mixture are n bytes without an order, others for each n.
func mixture(n int) []byte {
	b := make([]byte, n)
	rand.New(rand.NewSource(int64(n) + 1)).Read(b)
	return b
}

// told is the HMAC as the library has it.
func told(key, text []byte) [32]byte {
	h := hmac.New(sha256.New, key)
	h.Write(text)
	return [32]byte(h.Sum(nil))
}

func checkCode(t *testing.T, what string, got [32]byte, key, text []byte) {
	t.Helper()
	if want := told(key, text); got != want {
		t.Fatalf("%s (a key of %d bytes, a text of %d): the code is %x, not %x", what, len(key), len(text), got, want)
	}
}

func spoil(b []byte) {
	for i := range b {
		b[i] ^= 255
	}
}

// known are codes told elsewhere: the chapter's example, that of nothing, and the cases 1 to 4, 6 and 7 of RFC 4231 (the fifth has a code cut short).
var known = []struct{ key, text, want string }{
	{"key", "The quick brown fox jumps over the lazy dog", "f7bc83f430538424b13298e6aa6fb143ef4d59a14946175997479dbc2d1a3cd8"},
	{"", "", "b613679a0814d9ec772f95d778c35fc5ff1697c493715653c6c712144292c5ad"},
	{strings.Repeat("\x0b", 20), "Hi There", "b0344c61d8db38535ca8afceaf0bf12b881dc200c9833da726e9376c2e32cff7"},
	{"Jefe", "what do ya want for nothing?", "5bdcc146bf60754e6a042426089575c75a003f089d2739839dec58b964ec3843"},
	{strings.Repeat("\xaa", 20), strings.Repeat("\xdd", 50), "773ea91e36800e46854db8ebd09181a72959098b3ef8c122d9635514ced565fe"},
	{"\x01\x02\x03\x04\x05\x06\x07\x08\x09\x0a\x0b\x0c\x0d\x0e\x0f\x10\x11\x12\x13\x14\x15\x16\x17\x18\x19", strings.Repeat("\xcd", 50), "82558a389a443c0ea4cc819899f2083a85f0faa3e578f8077a2e3ff46729665b"},
	{strings.Repeat("\xaa", 131), "Test Using Larger Than Block-Size Key - Hash Key First", "60e431591ee0b67f0d8a26aacbf5b77f8e0bc6213728c5140546040f0ee37f54"},
	{strings.Repeat("\xaa", 131), "This is a test using a larger than block-size key and a larger than block-size data. The key needs to be hashed before being used by the HMAC algorithm.", "9b09ffa71b942fcb27635fbcd5b0e944bfdc63644f0713938a7f51535c3a35e2"},
}

// MA1: codes that were told elsewhere, whole and in pieces.
func TestSumKnown(t *testing.T) {
	for _, c := range known {
		key, text := []byte(c.key), []byte(c.text)
		sum := Sum(key, text)
		if got := hex.EncodeToString(sum[:]); got != c.want {
			t.Errorf("Sum(%q, %q) = %s, not %s", c.key, c.text, got, c.want)
		}
		m := New(key)
		m.Write(text)
		if m.Sum() != sum {
			t.Errorf("New(%q), Write(%q): %x", c.key, c.text, m.Sum())
		}
	}
}

// MA1: the words of the chapter, laid out by the library's SHA-256 alone.
func TestSumByItsWords(t *testing.T) {
	for _, size := range keyEdges {
		key, text := mixture(size), mixture(77)
		short := key
		if size > 64 {
			sum := sha256.Sum256(key)
			short = sum[:]
		}
		inner, outer := make([]byte, 64), make([]byte, 64)
		for i := range 64 {
			if i < len(short) {
				inner[i], outer[i] = short[i], short[i]
			}
			inner[i] ^= 0x36
			outer[i] ^= 0x5c
		}
		first := sha256.Sum256(append(inner, text...))
		if want := sha256.Sum256(append(outer, first[:]...)); Sum(key, text) != want {
			t.Errorf("a key of %d bytes: %x, not %x", size, Sum(key, text), want)
		}
	}
}

// MA1: keys of every length up to some blocks, texts of the lengths at which blocks end; and the other way round.
func TestSumEveryLength(t *testing.T) {
	for size := range 200 {
		for _, n := range textEdges {
			checkCode(t, "every key", Sum(mixture(size), mixture(n)), mixture(size), mixture(n))
		}
		for _, k := range keyEdges {
			checkCode(t, "every text", Sum(mixture(k), mixture(size)), mixture(k), mixture(size))
		}
	}
	for _, n := range []int{1 << 16, 1<<16 + 55, 1<<20 + 1} {
		checkCode(t, "a long text", Sum(mixture(9), mixture(n)), mixture(9), mixture(n))
		checkCode(t, "a long key", Sum(mixture(n), mixture(9)), mixture(n), mixture(9))
	}
}

// MA1: keys and texts of one byte of each value.
func TestSumEveryByte(t *testing.T) {
	for value := range 256 {
		one := []byte{byte(value)}
		checkCode(t, "a key of one byte", Sum(one, []byte("text")), one, []byte("text"))
		checkCode(t, "a text of one byte", Sum([]byte("key"), one), []byte("key"), one)
		full := bytes.Repeat(one, 64)
		checkCode(t, "a key of one value", Sum(full, full), full, full)
	}
}

// MA1, rule 3: nil is the empty list, as a key and as a text.
func TestNilIsEmpty(t *testing.T) {
	empty := []byte{}
	none := Sum(empty, empty)
	if Sum(nil, nil) != none || Sum(nil, empty) != none || Sum(empty, nil) != none {
		t.Errorf("nil and empty have other codes")
	}
	checkCode(t, "nil", New(nil).Sum(), nil, nil)
	m := New(nil)
	m.Write(nil)
	m.Write(empty)
	checkCode(t, "Writes of nothing", m.Sum(), nil, nil)
	m.Write([]byte("a"))
	m.Write(nil)
	checkCode(t, "a Write of nothing behind", m.Sum(), nil, []byte("a"))
}

// MA1: Sum, asked twice and between Writes, takes nothing away and lays nothing behind.
func TestSumGoesOn(t *testing.T) {
	for _, size := range keyEdges {
		key := mixture(size)
		for _, first := range textEdges {
			text := mixture(first + 70)
			m := New(key)
			m.Write(text[:first])
			checkCode(t, "once", m.Sum(), key, text[:first])
			checkCode(t, "twice", m.Sum(), key, text[:first])
			m.Write(text[first:])
			checkCode(t, "thereafter", m.Sum(), key, text)
			checkCode(t, "thereafter twice", m.Sum(), key, text)
		}
	}
}

// MA1: an answered code is by itself.
func TestSumStays(t *testing.T) {
	m := New([]byte("key"))
	m.Write([]byte("abc"))
	sum := m.Sum()
	m.Write(mixture(300))
	m.Sum()
	m.Reset()
	checkCode(t, "behind Writes and Reset", sum, []byte("key"), []byte("abc"))
	sum = m.Sum()
	spoil(sum[:])
	checkCode(t, "a spoilt answer", m.Sum(), []byte("key"), nil)
}

// MA1: Reset of a new MAC, behind Writes, behind Sum and behind itself: the key stays, the text goes.
func TestReset(t *testing.T) {
	for _, size := range keyEdges {
		key := mixture(size)
		for _, n := range textEdges {
			m := New(key)
			m.Reset()
			checkCode(t, "new and reset", m.Sum(), key, nil)
			m.Write(mixture(n))
			m.Reset()
			checkCode(t, "reset behind a Write", m.Sum(), key, nil)
			m.Write(mixture(n))
			m.Sum()
			m.Reset()
			m.Reset()
			checkCode(t, "reset behind Sum, twice", m.Sum(), key, nil)
			m.Write(mixture(n + 1))
			checkCode(t, "written to behind a Reset", m.Sum(), key, mixture(n+1))
		}
	}
}

// MA1: a clone and its MAC begin alike and go apart, whichever of them goes on first.
func TestClone(t *testing.T) {
	for _, size := range keyEdges {
		key := mixture(size)
		for _, n := range textEdges {
			text := mixture(n + 200)
			begin, a, b := text[:n], text[n:n+77], text[n+77:]
			m := New(key)
			m.Write(begin)
			c := m.Clone()
			if c == nil || c == m {
				t.Fatalf("a clone is %p, its MAC %p", c, m)
			}
			checkCode(t, "clone", c.Sum(), key, begin)
			c.Write(a)
			checkCode(t, "the MAC of a clone that went on", m.Sum(), key, begin)
			m.Write(b)
			checkCode(t, "the clone, its MAC gone on", c.Sum(), key, text[:n+77])
			checkCode(t, "the MAC, gone on", m.Sum(), key, append(bytes.Clone(begin), b...))
			d := c.Clone()
			c.Write(b)
			checkCode(t, "a clone of a clone", d.Sum(), key, text[:n+77])
			checkCode(t, "what it was made of", c.Sum(), key, text)
		}
	}
}

// MA1: a Reset of a clone leaves its MAC as it is, and the other way round; a clone has the key.
func TestCloneReset(t *testing.T) {
	for _, size := range keyEdges {
		key, text := mixture(size), mixture(90)
		m := New(key)
		m.Write(text)
		c, d := m.Clone(), m.Clone()
		c.Reset()
		checkCode(t, "a clone that was reset", c.Sum(), key, nil)
		checkCode(t, "the MAC of a reset clone", m.Sum(), key, text)
		m.Reset()
		m.Write([]byte("x"))
		checkCode(t, "a clone, its MAC reset", d.Sum(), key, text)
		checkCode(t, "a MAC, reset", m.Sum(), key, []byte("x"))
	}
}

// MA1, rule 4: MACs have nothing to do with each other.
func TestNewApart(t *testing.T) {
	one, two := New([]byte("one")), New([]byte("two"))
	one.Write([]byte("abc"))
	checkCode(t, "the other", two.Sum(), []byte("two"), nil)
	two.Write(mixture(200))
	checkCode(t, "the one", one.Sum(), []byte("one"), []byte("abc"))
	two.Reset()
	checkCode(t, "the one, the other reset", one.Sum(), []byte("one"), []byte("abc"))
}

// MA1, MA4: Verify of the code, and of it with each bit turned.
func TestVerify(t *testing.T) {
	for _, size := range keyEdges {
		for _, n := range textEdges {
			key, text := mixture(size), mixture(n)
			code := told(key, text)
			if !Verify(key, text, code[:]) {
				t.Fatalf("a key of %d bytes, a text of %d: the code is none", size, n)
			}
			for bit := range 256 {
				turned := code
				turned[bit/8] ^= 1 << (bit % 8)
				if Verify(key, text, turned[:]) {
					t.Fatalf("a key of %d bytes, a text of %d: bit %d is turned", size, n, bit)
				}
			}
		}
	}
}

// MA1: a code of another length is none, whatever its begin; nor is one of another key or text.
func TestVerifyWrong(t *testing.T) {
	key, text := []byte("key"), []byte("text")
	sum := told(key, text)
	code := sum[:]
	for n := range 32 {
		if Verify(key, text, code[:n]) || Verify(key, text, code[32-n:]) {
			t.Errorf("%d bytes of the code are one", n)
		}
	}
	for _, wrong := range [][]byte{
		nil,
		{},
		make([]byte, 32),
		append(bytes.Clone(code), 0),
		append(bytes.Clone(code), code[0]),
		append(bytes.Clone(code), code...),
		append(bytes.Clone(code), make([]byte, 256)...),
		append([]byte{0}, code...),
		[]byte(hex.EncodeToString(code)),
	} {
		if Verify(key, text, wrong) {
			t.Errorf("Verify of %x", wrong)
		}
	}
	if Verify([]byte("kez"), text, code) || Verify(key, []byte("texu"), code) || Verify(nil, text, code) || Verify(key, nil, code) || Verify(text, key, code) {
		t.Errorf("the code of another key or text")
	}
}

// MA1: a code that ends with a nought is none without it.
func TestVerifyEndsWithNought(t *testing.T) {
	for n := range 5000 {
		text := mixture(n % 70)
		text = append(text, byte(n>>8), byte(n))
		if code := told(nil, text); code[31] == 0 {
			if !Verify(nil, text, code[:]) || Verify(nil, text, code[:31]) {
				t.Fatalf("the code %x", code)
			}
			return
		}
	}
	t.Fatal("no code ends with a nought")
}

// MA1: Same of slices that part at each place, by each bit, and of other lengths.
func TestSame(t *testing.T) {
	for n := range 100 {
		a, b := mixture(n), mixture(n)
		if !Same(a, b) || !Same(a, a) {
			t.Fatalf("%d bytes are not the same", n)
		}
		for place := range n {
			for bit := range 8 {
				b[place] ^= 1 << bit
				if Same(a, b) || Same(b, a) {
					t.Fatalf("%d bytes: they part at %d", n, place)
				}
				b[place] ^= 1 << bit
			}
			if Same(a, b[:place]) || Same(b[:place], a) {
				t.Fatalf("%d bytes are the same as %d", n, place)
			}
		}
		spoil(b)
		if n > 0 && Same(a, b) {
			t.Fatalf("%d bytes part everywhere", n)
		}
	}
}

// MA1: edges of Same: nil and empty, noughts behind one, lengths that part by a multiple of 256, bytes that part twice.
func TestSameEdges(t *testing.T) {
	noughts := make([]byte, 1<<17)
	for _, c := range []struct {
		a, b []byte
		want bool
	}{
		{nil, nil, true},
		{nil, []byte{}, true},
		{[]byte{}, []byte{}, true},
		{nil, []byte{0}, false},
		{[]byte{}, []byte{1}, false},
		{[]byte("a"), nil, false},
		{[]byte("a"), []byte("a\x00"), false},
		{[]byte("abc"), []byte("bca"), false},
		{[]byte("abab"), []byte("baba"), false},
		{[]byte{1, 2}, []byte{2, 1}, false},
		{[]byte{128, 128}, []byte{0, 0}, false},
		{noughts[:256], nil, false},
		{noughts[:1], noughts[:257], false},
		{noughts[:1<<16], nil, false},
		{noughts, noughts[:1<<16], false},
		{noughts, make([]byte, 1<<17), true},
	} {
		if Same(c.a, c.b) != c.want || Same(c.b, c.a) != c.want {
			t.Errorf("Same of %d and %d bytes is not %v", len(c.a), len(c.b), c.want)
		}
	}
}

// quickest is the least time that Same took, of some turns.
func quickest(a, b []byte) time.Duration {
	least := time.Hour
	for range 5 {
		begin := time.Now()
		Same(a, b)
		least = min(least, time.Since(begin))
	}
	return least
}

// MA1: all bytes are looked at. Who stopped at the first would be quicker some thousand times, so that the bound is a wide one.
func TestSameLooksAtAll(t *testing.T) {
	const size = 1 << 22
	a, first, last := make([]byte, size), make([]byte, size), make([]byte, size)
	first[0], last[size-1] = 1, 1
	whole := quickest(a, last)
	for what, took := range map[string]time.Duration{
		"at the first byte": quickest(a, first),
		"in length too":     quickest(a, first[:size-1]),
		"in length alone":   quickest(a, a[:1]),
	} {
		if took < whole/20 {
			t.Errorf("Same takes %v where they part at the last byte, %v where they do %s", whole, took, what)
		}
	}
}

// MA3: every call of a nil MAC.
func TestNilMAC(t *testing.T) {
	var m *MAC
	check := func(what string) {
		t.Helper()
		if m != nil || m.Sum() != [32]byte{} || m.Clone() != nil {
			t.Errorf("%s: Sum = %x, Clone = %v", what, m.Sum(), m.Clone())
		}
	}
	check("at first")
	m.Write(nil)
	m.Write([]byte("abc"))
	check("written to")
	m.Reset()
	check("reset")
	m.Clone().Write([]byte("abc"))
	m.Clone().Reset()
	if m.Clone().Sum() != [32]byte{} {
		t.Errorf("a clone of nil has a sum")
	}
}

// MA3: a key is not kept: it may be written over at once.
func TestKeyIsNotKept(t *testing.T) {
	for _, size := range keyEdges {
		key, text := mixture(size), mixture(90)
		m := New(key)
		spoil(key)
		m.Write(text)
		checkCode(t, "the key written over", m.Sum(), mixture(size), text)
		c := m.Clone()
		m.Reset()
		spoil(key[:size/2])
		m.Write(text)
		checkCode(t, "reset thereafter", m.Sum(), mixture(size), text)
		checkCode(t, "cloned thereafter", c.Sum(), mixture(size), text)
	}
}

// MA3: a text is not kept, not even what fills no block yet.
func TestTextIsNotKept(t *testing.T) {
	key, text := []byte("key"), mixture(200)
	for size := 1; size <= len(text); size++ {
		m := New(key)
		buffer := make([]byte, size)
		for begin := 0; begin < len(text); begin += size {
			n := copy(buffer, text[begin:])
			m.Write(buffer[:n])
			spoil(buffer)
		}
		checkCode(t, "written over", m.Sum(), key, text)
	}
}

// MA3, rule 3: what is handed in is not changed, nor what stands in its spare room.
func TestArgumentsStay(t *testing.T) {
	for _, size := range keyEdges {
		for _, n := range textEdges {
			key, text := mixture(size+100), mixture(n+100)
			code := told(key[:size], text[:n])
			room := append(bytes.Clone(code[:]), mixture(90)...)
			before := bytes.Clone(room)
			Sum(key[:size], text[:n])
			Verify(key[:size], text[:n], room[:32])
			Same(key[:size], text[:n])
			m := New(key[:size])
			m.Write(text[:n])
			m.Sum()
			m.Reset()
			if !bytes.Equal(key, mixture(size+100)) || !bytes.Equal(text, mixture(n+100)) || !bytes.Equal(room, before) {
				t.Fatalf("a key of %d bytes, a text of %d: an argument has changed", size, n)
			}
		}
	}
}

// MA4: every cut of a text into two Writes, with and without a Sum between them.
func TestCuts(t *testing.T) {
	for _, size := range keyEdges {
		key, text := mixture(size), mixture(200)
		for cut := 0; cut <= len(text); cut++ {
			m, asked := New(key), New(key)
			m.Write(text[:cut])
			asked.Write(text[:cut])
			checkCode(t, "the begin", asked.Sum(), key, text[:cut])
			m.Write(text[cut:])
			asked.Write(text[cut:])
			checkCode(t, "cut", m.Sum(), key, text)
			checkCode(t, "cut and asked", asked.Sum(), key, text)
		}
	}
}

// MA4: byte by byte, with a Sum behind each.
func TestByteByByte(t *testing.T) {
	for _, size := range keyEdges {
		key, text := mixture(size), mixture(300)
		m := New(key)
		for i := range text {
			m.Write(text[i : i+1])
			checkCode(t, "byte by byte", m.Sum(), key, text[:i+1])
		}
	}
}

// MA4: cuts into pieces of any length, with clones and Resets among them.
func TestManyCuts(t *testing.T) {
	r := rand.New(rand.NewSource(4))
	for k := range 200 {
		key, text := mixture(r.Intn(150)), mixture(r.Intn(2000))
		m := New(key)
		if k%3 == 0 {
			m.Write(text)
			m.Reset()
		}
		for rest := text; len(rest) > 0; {
			n := min(len(rest), r.Intn(2+k))
			m.Write(rest[:n])
			rest = rest[n:]
			if r.Intn(5) == 0 {
				m = m.Clone()
			}
		}
		checkCode(t, "many cuts", m.Sum(), key, text)
	}
}

// MA4: a key of more than 64 bytes and its SHA-256 make the same codes; one of 64 bytes is no such key.
func TestLongKeys(t *testing.T) {
	text := mixture(90)
	for size := range 300 {
		key := mixture(size)
		sum := sha256.Sum256(key)
		if same := Sum(key, text) == Sum(sum[:], text); same != (size > 64) {
			t.Errorf("a key of %d bytes and its SHA-256 make the same code: %v", size, same)
		}
		if size > 64 && New(key).Sum() != New(sum[:]).Sum() {
			t.Errorf("New of a key of %d bytes, and of its SHA-256", size)
		}
	}
}

// MA4: a key of fewer than 64 bytes and that with noughts behind it, up to 64, make the same codes; beyond 64 and ahead of it they do not.
func TestShortKeys(t *testing.T) {
	text := mixture(90)
	for size := range 64 {
		key := append(bytes.Repeat([]byte{7}, size), make([]byte, 70)...)
		want := Sum(key[:size], text)
		for n := size; n <= 64; n++ {
			if Sum(key[:n], text) != want || New(key[:n]).Sum() != New(key[:size]).Sum() {
				t.Fatalf("a key of %d bytes, with noughts up to %d", size, n)
			}
		}
		if Sum(key[:65], text) == want {
			t.Errorf("a key of %d bytes, with noughts up to 65", size)
		}
		if size > 0 && Sum(append([]byte{0}, key[:size]...), text) == want {
			t.Errorf("a key of %d bytes, a nought ahead of it", size)
		}
	}
}

// MA4: keys with a bit turned make other codes.
func TestTurnedKeys(t *testing.T) {
	key, text := mixture(64), mixture(90)
	want := Sum(key, text)
	for bit := range 512 {
		key[bit/8] ^= 1 << (bit % 8)
		if Sum(key, text) == want || Verify(key, text, want[:]) {
			t.Fatalf("bit %d of the key changes nothing", bit)
		}
		key[bit/8] ^= 1 << (bit % 8)
	}
}

func BenchmarkSum(b *testing.B) {
	key, text := mixture(32), mixture(200)
	for b.Loop() {
		Sum(key, text)
	}
}
