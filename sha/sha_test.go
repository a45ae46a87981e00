package sha

import (
	"bytes"
	"crypto/sha256"
	"encoding/binary"
	"encoding/hex"
	"math"
	"math/big"
	"math/bits"
	"math/rand"
	"strings"
	"testing"
	"turnstile/api"
)

const (
	sumOfNothing = "e3b0c44298fc1c149afbf4c8996fb92427ae41e4649b934ca495991b7852b855"
	sumOfABC     = "ba7816bf8f01cfea414140de5dae2223b00361a396177a9cb410ff61f20015ad"
)

// edges are lengths at which the pad, or the number of blocks, changes.
var edges = []int{0, 1, 54, 55, 56, 57, 63, 64, 65, 118, 119, 120, 127, 128, 129}

// mixture is a text of n bytes, no two blocks of which are alike.
func mixture(n int) []byte {
	b := make([]byte, n)
	rand.New(rand.NewSource(int64(n) + 1)).Read(b)
	return b
}

func checkSum(t *testing.T, what string, got [32]byte, of []byte) {
	t.Helper()
	if want := sha256.Sum256(of); got != want {
		t.Fatalf("%s: the sum is %x, not %x", what, got, want)
	}
}

// checkHash checks all that can be asked of a hash.
func checkHash(t *testing.T, what string, h *Hash, of []byte) {
	t.Helper()
	if h.Len() != len(of) {
		t.Fatalf("%s: Len = %d, not %d", what, h.Len(), len(of))
	}
	checkSum(t, what, h.Sum(), of)
}

// scheduleTold is a schedule with its words turned to the left.
func scheduleTold(block [64]byte) [64]uint32 {
	var w [64]uint32
	for t := range w {
		if t < 16 {
			w[t] = binary.BigEndian.Uint32(block[4*t:])
			continue
		}
		x, y := w[t-15], w[t-2]
		low := bits.RotateLeft32(x, 25) ^ bits.RotateLeft32(x, 14) ^ x/8
		high := bits.RotateLeft32(y, 15) ^ bits.RotateLeft32(y, 13) ^ y/1024
		w[t] = w[t-16] + low + w[t-7] + high
	}
	return w
}

// SH1: the first sixteen words are the block's, the highest byte first.
func TestScheduleBegin(t *testing.T) {
	for place := range 64 {
		var block [64]byte
		block[place] = 0xa5
		w := Schedule(block)
		for i, word := range w[:16] {
			want := uint32(0)
			if i == place/4 {
				want = 0xa5 << (8 * (3 - place%4))
			}
			if word != want {
				t.Errorf("byte %d: W(%d) = %08x, not %08x", place, i, word, want)
			}
		}
	}
}

// SH1: the words from 16 on, as FIPS 180-4's example of "abc" has them.
func TestScheduleOfABC(t *testing.T) {
	var block [64]byte
	copy(block[:], "abc\x80")
	block[63] = 24
	w := Schedule(block)
	for i, want := range map[int]uint32{
		0: 0x61626380, 1: 0, 14: 0, 15: 0x18, 16: 0x61626380, 17: 0x000f0000, 18: 0x7da86405, 19: 0x600003c6,
	} {
		if w[i] != want {
			t.Errorf("W(%d) = %08x, not %08x", i, w[i], want)
		}
	}
}

// SH1: all words, of blocks of noughts, of 255, of one bit each, and of others.
func TestScheduleWhole(t *testing.T) {
	check := func(block [64]byte) {
		t.Helper()
		if got, want := Schedule(block), scheduleTold(block); got != want {
			t.Fatalf("Schedule(%x) = %08x, not %08x", block, got, want)
		}
	}
	var noughts, full [64]byte
	if Schedule(noughts) != [64]uint32{} {
		t.Errorf("a block of noughts has words other than 0")
	}
	copy(full[:], bytes.Repeat([]byte{255}, 64))
	check(full)
	for bit := range 512 {
		one, hole := noughts, full
		one[bit/8] ^= 1 << (bit % 8)
		hole[bit/8] ^= 1 << (bit % 8)
		check(one)
		check(hole)
	}
	for k := range 200 {
		check([64]byte(mixture(64 + k)[:64]))
	}
}

// padTold is a pad, found by laying noughts one by one.
func padTold(n int) []byte {
	pad := []byte{128}
	for (uint64(n)+uint64(len(pad))+8)%64 != 0 {
		pad = append(pad, 0)
	}
	return binary.BigEndian.AppendUint64(pad, 8*uint64(n))
}

func checkPad(t *testing.T, n int) {
	t.Helper()
	pad, err := Pad(n)
	if want := padTold(n); err != nil || !bytes.Equal(pad, want) {
		t.Fatalf("Pad(%d) = %x, %v, not %x", n, pad, err, want)
	}
}

// SH1: pads of small and of great numbers.
func TestPad(t *testing.T) {
	for n := range 1000 {
		checkPad(t, n)
	}
	for k := 10; k < 60; k++ {
		for d := -70; d <= 70; d++ {
			checkPad(t, 1<<k+d)
		}
	}
	for d := range 140 {
		checkPad(t, 1<<60-d)
	}
	r := rand.New(rand.NewSource(3))
	for range 1000 {
		checkPad(t, int(r.Int63n(1<<60)))
	}
}

// SH1: how long a pad is, told by hand.
func TestPadLength(t *testing.T) {
	for n, want := range map[int]int{
		0: 64, 1: 63, 54: 10, 55: 9, 56: 72, 57: 71, 63: 65, 64: 64, 65: 63, 119: 9, 120: 72, 127: 65, 128: 64, 1 << 60: 64, 1<<60 - 9: 9, 1<<60 - 8: 72,
	} {
		if pad, err := Pad(n); len(pad) != want || err != nil {
			t.Errorf("Pad(%d): %d bytes, %v; not %d", n, len(pad), err, want)
		}
	}
}

// SH1: the eight bytes that tell the length, told by hand.
func TestPadNumber(t *testing.T) {
	for n, want := range map[int]string{
		0:                  "0000000000000000",
		1:                  "0000000000000008",
		31:                 "00000000000000f8",
		32:                 "0000000000000100",
		1<<29 - 1:          "00000000fffffff8",
		1 << 29:            "0000000100000000",
		0x0123456789abcde:  "0091a2b3c4d5e6f0",
		1 << 59:            "4000000000000000",
		1<<60 - 1:          "7ffffffffffffff8",
		1 << 60:            "8000000000000000",
		0x0fedcba987654321: "7f6e5d4c3b2a1908",
	} {
		pad, err := Pad(n)
		if err != nil || len(pad) < 9 {
			t.Errorf("Pad(%d) = %x, %v", n, pad, err)
			continue
		}
		if got := hex.EncodeToString(pad[len(pad)-8:]); got != want {
			t.Errorf("Pad(%d) ends with %s, not %s", n, got, want)
		}
	}
}

// SH1: numbers below 0 and above 2^60 have no pad.
func TestPadErrArg(t *testing.T) {
	wrong := []int{math.MinInt, math.MinInt + 1, -1 << 60, -64, -56, -8, -1, 1<<60 + 1, 1<<60 + 2, 1<<60 + 64, 1 << 61, 1 << 62, math.MaxInt - 1, math.MaxInt}
	for _, n := range wrong {
		if pad, err := Pad(n); err != api.ErrArg || pad != nil {
			t.Errorf("Pad(%d) = %x, %v", n, pad, err)
		}
	}
}

// SH1, rule 3: a pad is new memory each time.
func TestPadIsNew(t *testing.T) {
	for _, n := range edges {
		pad, _ := Pad(n)
		pad = pad[:cap(pad)]
		for i := range pad {
			pad[i] = 77
		}
		checkPad(t, n)
		checkSum(t, "behind a spoilt pad", Sum(mixture(n)), mixture(n))
	}
}

// root32 are the first 32 bits behind the point of n's root of that order.
func root32(n int64, order int) uint32 {
	whole := new(big.Int).Lsh(big.NewInt(n), uint(32*order))
	root := new(big.Int)
	for bit := 40; bit >= 0; bit-- {
		root.SetBit(root, bit, 1)
		if new(big.Int).Exp(root, big.NewInt(int64(order)), nil).Cmp(whole) > 0 {
			root.SetBit(root, bit, 0)
		}
	}
	return uint32(root.Uint64())
}

// SH2, the Words: the constants and the first state are roots of primes.
func TestConstants(t *testing.T) {
	i := 0
	for n := int64(2); n <= 311; n++ {
		if !big.NewInt(n).ProbablyPrime(20) {
			continue
		}
		if want := root32(n, 3); constants[i] != want {
			t.Errorf("K(%d) = %08x, not %08x", i, constants[i], want)
		}
		if i < 8 && firstState()[i] != root32(n, 2) {
			t.Errorf("H(%d) = %08x, not %08x", i, firstState()[i], root32(n, 2))
		}
		i++
	}
	if i != 64 {
		t.Errorf("%d primes", i)
	}
}

// SH2: sums told by hand, of the lengths at which blocks end, and of a long text.
func TestSumKnown(t *testing.T) {
	for _, c := range []struct{ text, want string }{
		{"", sumOfNothing},
		{"abc", sumOfABC},
		{"abcdbcdecdefdefgefghfghighijhijkijkljklmklmnlmnomnopnopq", "248d6a61d20638b8e5c026930c3e6039a33ce45964ff2167f6ecedd419db06c1"},
		{strings.Repeat("a", 1), "ca978112ca1bbdcafac231b39a23dc4da786eff8147c4e72b9807785afee48bb"},
		{strings.Repeat("a", 55), "9f4390f8d30c2dd92ec9f095b65e2b9ae9b0a925a5258e241c9f1e910f734318"},
		{strings.Repeat("a", 56), "b35439a4ac6f0948b6d6f9e3c6af0f5f590ce20f1bde7090ef7970686ec6738a"},
		{strings.Repeat("a", 63), "7d3e74a05d7db15bce4ad9ec0658ea98e3f06eeecf16b4c6fff2da457ddc2f34"},
		{strings.Repeat("a", 64), "ffe054fe7ae0cb6dc65c3af9b61d5209f439851db43d0ba5997337df154668eb"},
		{strings.Repeat("a", 65), "635361c48bb9eab14198e76ea8ab7f1a41685d6ad62aa9146d301d4f17eb0ae0"},
		{strings.Repeat("a", 119), "31eba51c313a5c08226adf18d4a359cfdfd8d2e816b13f4af952f7ea6584dcfb"},
		{strings.Repeat("a", 120), "2f3d335432c70b580af0e8e1b3674a7c020d683aa5f73aaaedfdc55af904c21c"},
		{strings.Repeat("a", 127), "c57e9278af78fa3cab38667bef4ce29d783787a2f731d4e12200270f0c32320a"},
		{strings.Repeat("a", 128), "6836cf13bac400e9105071cd6af47084dfacad4e5e302c94bfed24e013afb73e"},
		{strings.Repeat("a", 1000000), "cdc76e5c9914fb9281a1c7e284d73e67f1809a48a497200e046d39ccc7112cd0"},
		{strings.Repeat("\x00", 64), "f5a5fd42d16a20302798ef6ed309979b43003d2320d9f0e8ea9831a92759fb4b"},
		{strings.Repeat("\x00", 128), "38723a2e5e8a17aa7950dc008209944e898f69a7bd10a23c839d341e935fd5ca"},
		{strings.Repeat("\xff", 64), "8667e718294e9e0df1d30600ba3eeb201f764aad2dad72748643e4a285e1d1f7"},
		{strings.Repeat("\xff", 128), "e9175db65a9789096ca9cb5524d3abc2107df03e3c9ba3af1aca628f9c5d3bd2"},
	} {
		if got := Text(Sum([]byte(c.text))); got != c.want {
			t.Errorf("the sum of %d bytes is %s, not %s", len(c.text), got, c.want)
		}
	}
}

// SH2: sums of texts of every length up to some blocks, and of long ones.
func TestSumEveryLength(t *testing.T) {
	for n := range 400 {
		checkSum(t, "noughts", Sum(make([]byte, n)), make([]byte, n))
		full := bytes.Repeat([]byte{255}, n)
		checkSum(t, "full", Sum(full), full)
		checkSum(t, "mixture", Sum(mixture(n)), mixture(n))
	}
	for _, n := range []int{1 << 16, 1<<16 + 55, 1<<16 + 56, 1<<20 + 1, 3 << 20} {
		checkSum(t, "long", Sum(mixture(n)), mixture(n))
	}
	checkSum(t, "nil", Sum(nil), nil)
}

// SH2, rule 3: what is summed is neither changed nor kept, its spare room neither.
func TestSumLeavesItsArgument(t *testing.T) {
	for _, n := range edges {
		room := mixture(n + 100)
		before := bytes.Clone(room)
		first := Sum(room[:n])
		h := New()
		h.Write(room[:n])
		h.Sum()
		if !bytes.Equal(room, before) {
			t.Errorf("%d bytes: the argument has changed", n)
		}
		for i := range room {
			room[i] ^= 255
		}
		if Sum(before[:n]) != first || h.Sum() != first {
			t.Errorf("%d bytes: the argument is kept", n)
		}
	}
}

// SH2: high and low digits, each byte at each place.
func TestText(t *testing.T) {
	for _, c := range []struct {
		sum  [32]byte
		want string
	}{
		{[32]byte{}, strings.Repeat("0", 64)},
		{[32]byte(bytes.Repeat([]byte{255}, 32)), strings.Repeat("f", 64)},
		{[32]byte{0: 0xf0}, "f0" + strings.Repeat("0", 62)},
		{[32]byte{31: 0x0f}, strings.Repeat("0", 62) + "0f"},
		{[32]byte{0x01, 0x23, 0x45, 0x67, 0x89, 0xab, 0xcd, 0xef, 0x10, 0x32, 0x54, 0x76, 0x98, 0xba, 0xdc, 0xfe}, "0123456789abcdef1032547698badcfe" + strings.Repeat("0", 32)},
	} {
		if got := Text(c.sum); got != c.want {
			t.Errorf("Text(%x) = %q", c.sum, got)
		}
	}
	for place := range 32 {
		for value := range 256 {
			sum := [32]byte(mixture(32))
			sum[place] = byte(value)
			if got, want := Text(sum), hex.EncodeToString(sum[:]); got != want {
				t.Fatalf("Text(%x) = %q", sum, got)
			}
		}
	}
}

// SH3: a new hash has nothing; a Write of nothing and of nil lays nothing behind.
func TestNew(t *testing.T) {
	h := New()
	if h == nil {
		t.Fatal("New is nil")
	}
	checkHash(t, "new", h, nil)
	if Text(h.Sum()) != sumOfNothing {
		t.Errorf("new: %s", Text(h.Sum()))
	}
	for _, n := range edges {
		h, text := New(), mixture(n)
		h.Write(nil)
		h.Write(text)
		h.Write([]byte{})
		h.Write(nil)
		checkHash(t, "with Writes of nothing", h, text)
	}
}

// SH3: New hashes have nothing to do with each other.
func TestNewApart(t *testing.T) {
	one, two := New(), New()
	one.Write([]byte("abc"))
	checkHash(t, "the other", two, nil)
	two.Write(mixture(200))
	checkHash(t, "the one", one, []byte("abc"))
	checkHash(t, "a third", New(), nil)
}

// SH3: Sum, asked twice and between Writes, takes nothing away and lays nothing behind.
func TestSumGoesOn(t *testing.T) {
	for _, first := range edges {
		for _, second := range edges {
			text := mixture(first + second)
			h := New()
			h.Write(text[:first])
			checkHash(t, "once", h, text[:first])
			checkHash(t, "twice", h, text[:first])
			h.Write(text[first:])
			checkHash(t, "thereafter", h, text)
			checkHash(t, "thereafter twice", h, text)
		}
	}
}

// SH3: an answered sum is by itself: what comes later does not change it.
func TestSumStays(t *testing.T) {
	h := New()
	h.Write([]byte("abc"))
	sum := h.Sum()
	h.Write(mixture(300))
	h.Sum()
	if Text(sum) != sumOfABC {
		t.Errorf("the sum became %x", sum)
	}
}

// SH3: a clone and its hash begin alike and go apart, whichever of them goes on first.
func TestClone(t *testing.T) {
	for _, n := range edges {
		text := mixture(n + 200)
		begin, a, b := text[:n], text[n:n+77], text[n+77:]
		h := New()
		h.Write(begin)
		c := h.Clone()
		if c == nil || c == h {
			t.Fatalf("a clone of %d bytes is %p, its hash %p", n, c, h)
		}
		checkHash(t, "clone", c, begin)
		c.Write(a)
		checkHash(t, "the hash of a clone that went on", h, begin)
		h.Write(b)
		checkHash(t, "the clone, its hash gone on", c, append(bytes.Clone(begin), a...))
		checkHash(t, "the hash, gone on", h, append(bytes.Clone(begin), b...))
		d := c.Clone()
		c.Write(b)
		checkHash(t, "a clone of a clone", d, append(bytes.Clone(begin), a...))
		d.Write(b)
		checkHash(t, "a clone that goes on alike", d, text)
		checkHash(t, "as its hash does", c, text)
	}
}

// SH3: a clone's sum leaves the hash as it is, and the other way round.
func TestCloneSums(t *testing.T) {
	h := New()
	h.Write(mixture(60))
	c := h.Clone()
	c.Sum()
	c.Write(mixture(9))
	h.Sum()
	checkHash(t, "hash", h, mixture(60))
	checkHash(t, "clone", c, append(mixture(60), mixture(9)...))
}

// SH3, rule 1: a nil hash, which no call answers, is one to which nothing comes.
func TestNilHash(t *testing.T) {
	var h *Hash
	h.Write(nil)
	h.Write([]byte("abc"))
	checkHash(t, "nil", h, nil)
	if h.Clone() != nil {
		t.Errorf("a clone of nil is none")
	}
}

// SH3, rule 3: what was handed in is not kept, not even what fills no block yet.
func TestWriteKeepsNothing(t *testing.T) {
	text := mixture(200)
	for size := 1; size <= len(text); size++ {
		h := New()
		buffer := make([]byte, size)
		for at := 0; at < len(text); at += size {
			n := copy(buffer, text[at:])
			h.Write(buffer[:n])
			for i := range buffer {
				buffer[i] = 99
			}
		}
		checkHash(t, "written over", h, text)
	}
}

// SH4: every cut into two Writes, and into three.
func TestCuts(t *testing.T) {
	text := mixture(200)
	for i := 0; i <= len(text); i++ {
		for j := i; j <= len(text); j++ {
			h := New()
			h.Write(text[:i])
			if h.Len() != i {
				t.Fatalf("Len = %d, not %d", h.Len(), i)
			}
			h.Write(text[i:j])
			h.Write(text[j:])
			checkHash(t, "cut", h, text)
		}
	}
}

// SH4: byte by byte, with a sum behind each.
func TestByteByByte(t *testing.T) {
	text := mixture(300)
	h := New()
	for i := range text {
		h.Write(text[i : i+1])
		checkHash(t, "byte by byte", h, text[:i+1])
	}
}

// SH4: cuts into pieces of any length, of long texts.
func TestManyCuts(t *testing.T) {
	r := rand.New(rand.NewSource(4))
	for k := range 200 {
		text := mixture(r.Intn(3000))
		h := New()
		for rest := text; len(rest) > 0; {
			n := min(len(rest), r.Intn(1+k))
			if n == 0 {
				n = 1
			}
			h.Write(rest[:n])
			rest = rest[n:]
			if r.Intn(5) == 0 {
				h = h.Clone()
			}
		}
		checkHash(t, "many cuts", h, text)
	}
}

// SH4: so many bytes that their bits are more than 32 bits can tell.
func TestGreatLength(t *testing.T) {
	if testing.Short() {
		t.Skip("takes seconds")
	}
	piece := mixture(1 << 20)
	h, other := New(), sha256.New()
	for range 513 {
		h.Write(piece)
		other.Write(piece)
	}
	if h.Len() != 513<<20 || h.Sum() != [32]byte(other.Sum(nil)) {
		t.Errorf("%d bytes: %s", h.Len(), Text(h.Sum()))
	}
}

func BenchmarkSum(b *testing.B) {
	text := mixture(1 << 16)
	b.SetBytes(int64(len(text)))
	for b.Loop() {
		Sum(text)
	}
}
