package ring

import (
	"bytes"
	"math"
	"math/rand"
	"slices"
	"strings"
	"testing"
	"turnstile/api"
)

// extremes are numbers that no ring has so many bytes of, nor a place for.
var extremes = []int{math.MinInt, math.MinInt + 1, math.MaxInt - 1, math.MaxInt}

func fresh(t *testing.T, size int) *Ring {
	t.Helper()
	r, err := New(size)
	if err != nil || r == nil {
		t.Fatalf("New(%d) = %v, %v", size, r, err)
	}
	return r
}

// turned is a ring whose first byte stands turn spots behind the begin of its room.
func turned(t *testing.T, size, turn int, text string) *Ring {
	t.Helper()
	r := fresh(t, size)
	for range turn {
		if r.Write([]byte{'#'}) != 1 || r.Skip(1) != 1 {
			t.Fatalf("size %d: a byte can't be written and skipped", size)
		}
	}
	if n := r.Write([]byte(text)); n != len(text) {
		t.Fatalf("size %d: Write(%q) = %d", size, text, n)
	}
	return r
}

// holds checks all that can be asked of a ring without changing it.
func holds(t *testing.T, r *Ring, size int, text string) {
	t.Helper()
	if r.Len() != len(text) || r.Size() != size || r.Room() != size-len(text) {
		t.Fatalf("Len, Size, Room = %d, %d, %d of %q in %d", r.Len(), r.Size(), r.Room(), text, size)
	}
	if got := string(r.Peek(size + 1)); got != text {
		t.Fatalf("holds %q, not %q", got, text)
	}
}

// texts calls f with every text of up to most of the bytes of set.
func texts(set string, most int, f func(text string)) {
	f("")
	if most == 0 {
		return
	}
	for i := range len(set) {
		texts(set, most-1, func(text string) { f(set[i:i+1] + text) })
	}
}

// wantLine is RI3 told the other way round: first how long the plain bytes are, then what stands behind them.
func wantLine(text string, most int) (line, rest string, err error) {
	if most < 0 {
		return "", text, api.ErrArg
	}
	plain := strings.IndexAny(text, "\r\n")
	if plain < 0 {
		plain = len(text)
	}
	line, behind := text[:plain], text[plain:]
	switch {
	case plain > most:
		return "", text, api.ErrLong
	case behind == "" || behind == "\r":
		return "", text, api.ErrNone
	case strings.HasPrefix(behind, "\r\n"):
		return line, behind[2:], nil
	}
	return "", text, api.ErrForm
}

// RI1: sizes from 1 to MaxBuffer, and no others.
func TestNew(t *testing.T) {
	for _, size := range []int{1, 2, 3, 8, 1000, api.MaxBuffer - 1, api.MaxBuffer} {
		holds(t, fresh(t, size), size, "")
	}
	for _, size := range append([]int{0, -1, -2, -api.MaxBuffer, api.MaxBuffer + 1, api.MaxBuffer * 2, 1 << 40}, extremes...) {
		if r, err := New(size); r != nil || err != api.ErrArg {
			t.Errorf("New(%d) = %v, %v", size, r, err)
		}
	}
}

// RI1: what there is room for is taken, from the first byte on, and stands behind the others.
func TestWrite(t *testing.T) {
	r := fresh(t, 5)
	for _, step := range []struct {
		text string
		took int
		all  string
	}{
		{"", 0, ""},
		{"ab", 2, "ab"},
		{"", 0, "ab"},
		{"c", 1, "abc"},
		{"defg", 2, "abcde"},
		{"h", 0, "abcde"},
		{"", 0, "abcde"},
		{strings.Repeat("i", 100), 0, "abcde"},
	} {
		if n := r.Write([]byte(step.text)); n != step.took {
			t.Errorf("Write(%q) = %d, not %d", step.text, n, step.took)
		}
		holds(t, r, 5, step.all)
	}
	if n := r.Write(nil); n != 0 {
		t.Errorf("Write(nil) = %d", n)
	}
	holds(t, r, 5, "abcde")
}

// RI1: a ring of one byte, and one of MaxBuffer.
func TestWriteLeastAndMost(t *testing.T) {
	one := fresh(t, 1)
	for _, c := range []byte{'a', 0, 255, '\r', '\n'} {
		if n := one.Write([]byte{c, 'x'}); n != 1 {
			t.Errorf("Write of two into one = %d", n)
		}
		holds(t, one, 1, string([]byte{c}))
		if b := one.Read(2); !bytes.Equal(b, []byte{c}) {
			t.Errorf("Read = %q, not %q", b, c)
		}
	}
	most := fresh(t, api.MaxBuffer)
	all := bytes.Repeat([]byte("0123456789"), api.MaxBuffer/10+1)
	if n := most.Write(all); n != api.MaxBuffer {
		t.Errorf("Write = %d", n)
	}
	if most.Room() != 0 || most.Write([]byte("x")) != 0 {
		t.Error("a full ring takes more")
	}
	if b := most.Read(api.MaxBuffer); !bytes.Equal(b, all[:api.MaxBuffer]) {
		t.Error("Read is not what was written")
	}
}

// RI2: Peek, Read and Skip, below 1, within, and above what is there, wherever the first byte stands.
func TestPeekReadSkip(t *testing.T) {
	const size, text = 6, "abcd"
	for turn := range 2*size + 1 {
		for _, n := range append([]int{-2, -1, 0, 1, 2, 3, 4, 5, 6, 7, api.MaxBuffer}, extremes...) {
			cut := max(0, min(n, len(text)))
			r := turned(t, size, turn, text)
			for range 2 {
				if b := r.Peek(n); string(b) != text[:cut] || cap(b) != len(b) {
					t.Errorf("Peek(%d) = %q, turned by %d", n, b, turn)
				}
			}
			holds(t, r, size, text)
			if b := r.Read(n); string(b) != text[:cut] || cap(b) != len(b) {
				t.Errorf("Read(%d) = %q, turned by %d", n, b, turn)
			}
			holds(t, r, size, text[cut:])
			r = turned(t, size, turn, text)
			if got := r.Skip(n); got != cut {
				t.Errorf("Skip(%d) = %d, turned by %d", n, got, turn)
			}
			holds(t, r, size, text[cut:])
		}
	}
}

// RI2: of a ring without bytes nothing is taken, though it had some.
func TestNothingIsLeft(t *testing.T) {
	for turn := range 4 {
		r := turned(t, 3, turn, "")
		for _, n := range append([]int{-1, 0, 1, 3, 4}, extremes...) {
			if len(r.Peek(n)) != 0 || len(r.Read(n)) != 0 || r.Skip(n) != 0 {
				t.Errorf("%d bytes of an empty ring", n)
			}
		}
		if _, ok := r.At(0); ok || r.Index('#', 0) != -1 || r.Clear() != 0 {
			t.Error("an empty ring has a byte")
		}
		holds(t, r, 3, "")
	}
}

// RI2: At within, below 0, and behind the last byte, where older bytes may lie.
func TestAt(t *testing.T) {
	const size, text = 5, "\x00\xffab"
	for turn := range 2*size + 1 {
		r := turned(t, size, turn, text)
		for i := -2 * size; i <= 2*size; i++ {
			c, ok := r.At(i)
			there := i >= 0 && i < len(text)
			if ok != there || there && c != text[i] || !there && c != 0 {
				t.Errorf("At(%d) = %d, %v, turned by %d", i, c, ok, turn)
			}
		}
		for _, i := range extremes {
			if c, ok := r.At(i); c != 0 || ok {
				t.Errorf("At(%d) = %d, %v", i, c, ok)
			}
		}
		holds(t, r, size, text)
	}
}

// RI2: Index by each byte from each place, behind the last one too.
func TestIndex(t *testing.T) {
	const size, text = 7, "abacb"
	for turn := range 2*size + 1 {
		r := turned(t, size, turn, text)
		for _, c := range []byte("abc#\x00") {
			for from := -2 * size; from <= 2*size; from++ {
				if got, want := r.Index(c, from), indexFrom(text, c, from); got != want {
					t.Errorf("Index(%q, %d) = %d, not %d, turned by %d", c, from, got, want, turn)
				}
			}
			for _, from := range extremes {
				if got, want := r.Index(c, from), indexFrom(text, c, from); got != want {
					t.Errorf("Index(%q, %d) = %d, not %d", c, from, got, want)
				}
			}
		}
		holds(t, r, size, text)
	}
}

func indexFrom(text string, c byte, from int) int {
	for i := range len(text) {
		if i >= from && text[i] == c {
			return i
		}
	}
	return -1
}

// RI2: Clear answers how many there were, and the ring can be filled again.
func TestClear(t *testing.T) {
	for turn := range 5 {
		for n := range 5 {
			r := turned(t, 4, turn, "abcd"[:n])
			if got := r.Clear(); got != n {
				t.Errorf("Clear = %d, not %d", got, n)
			}
			holds(t, r, 4, "")
			if got := r.Clear(); got != 0 {
				t.Errorf("Clear again = %d", got)
			}
			if r.Write([]byte("efghi")) != 4 {
				t.Error("a cleared ring has not its room")
			}
			holds(t, r, 4, "efgh")
		}
	}
}

// RI3: every text of up to 7 plain and bare bytes, at each most, wherever it stands in the room.
func TestLineOfEveryText(t *testing.T) {
	const size = 7
	texts("a\r\n", size, func(text string) {
		for turn := range size {
			for most := -1; most <= size+1; most++ {
				line, rest, want := wantLine(text, most)
				r := turned(t, size, turn, text)
				got, err := r.Line(most)
				if string(got) != line || err != want || want != nil && got != nil {
					t.Fatalf("Line(%d) of %q = %q, %v, not %q, %v, turned by %d", most, text, got, err, line, want, turn)
				}
				holds(t, r, size, rest)
			}
		}
	})
}

// RI3: the cases by name, so that what a line is does not hang on one way to tell it.
func TestLineByName(t *testing.T) {
	for _, c := range []struct {
		name, text string
		most       int
		line, rest string
		err        error
	}{
		{"a line", "ab\r\ncd", 10, "ab", "cd", nil},
		{"just below most", "ab\r\n", 3, "ab", "", nil},
		{"at most", "ab\r\n", 2, "ab", "", nil},
		{"just above most", "ab\r\n", 1, "", "ab\r\n", api.ErrLong},
		{"an empty line", "\r\n\r\n", 0, "", "\r\n", nil},
		{"an empty line, much allowed", "\r\nx", math.MaxInt, "", "x", nil},
		{"no bytes", "", 0, "", "", api.ErrNone},
		{"no end", "abc", 3, "", "abc", api.ErrNone},
		{"no end, too long", "abc", 2, "", "abc", api.ErrLong},
		{"one byte, none allowed", "a", 0, "", "a", api.ErrLong},
		{"13 is the last byte", "abc\r", 3, "", "abc\r", api.ErrNone},
		{"13 is the last byte, too long", "abcd\r", 3, "", "abcd\r", api.ErrLong},
		{"13 alone", "\r", 0, "", "\r", api.ErrNone},
		{"10 alone", "\n", 0, "", "\n", api.ErrForm},
		{"bare 10 within most", "a\nb\r\n", 5, "", "a\nb\r\n", api.ErrForm},
		{"bare 13 within most", "a\rb\r\n", 5, "", "a\rb\r\n", api.ErrForm},
		{"bare 10 behind most bytes", "abc\n", 3, "", "abc\n", api.ErrForm},
		{"bare 13 behind most bytes", "abc\rd", 3, "", "abc\rd", api.ErrForm},
		{"bare 10 behind more", "abcd\n", 3, "", "abcd\n", api.ErrLong},
		{"bare 13 behind more", "abcd\re", 3, "", "abcd\re", api.ErrLong},
		{"13 13 10", "a\r\r\n", 5, "", "a\r\r\n", api.ErrForm},
		{"13 13", "a\r\r", 5, "", "a\r\r", api.ErrForm},
		{"10 13", "a\n\r", 5, "", "a\n\r", api.ErrForm},
		{"bare bytes behind the end", "a\r\n\n\r\r", 5, "a", "\n\r\r", nil},
		{"bare ahead of too long", "a\nbcdefgh", 3, "", "a\nbcdefgh", api.ErrForm},
		{"other bytes below 32", "\x00\x09\x0b\x0c\x0e\xff\r\n", 6, "\x00\x09\x0b\x0c\x0e\xff", "", nil},
		{"below 0", "ab\r\n", -1, "", "ab\r\n", api.ErrArg},
		{"far below 0, bare", "\n", math.MinInt, "", "\n", api.ErrArg},
	} {
		r := turned(t, 20, 17, c.text)
		got, err := r.Line(c.most)
		if string(got) != c.line || err != c.err || err != nil && got != nil {
			t.Errorf("%s: Line(%d) of %q = %q, %v", c.name, c.most, c.text, got, err)
		}
		holds(t, r, 20, c.rest)
	}
}

// RI3: the chapter's examples.
func TestExamples(t *testing.T) {
	r := fresh(t, 8)
	if n := r.Write([]byte("ab\r\ncdefgh")); n != 8 {
		t.Errorf("Write = %d", n)
	}
	if b, err := r.Line(10); string(b) != "ab" || err != nil {
		t.Errorf("Line = %q, %v", b, err)
	}
	if b, err := r.Line(10); b != nil || err != api.ErrNone {
		t.Errorf("Line = %q, %v", b, err)
	}
	if b, err := r.Line(3); b != nil || err != api.ErrLong {
		t.Errorf("Line = %q, %v", b, err)
	}
	holds(t, r, 8, "cdef")
}

// RI3: a line that fills the greatest ring.
func TestLineOfTheGreatestRing(t *testing.T) {
	const most = api.MaxBuffer - 2
	r := fresh(t, api.MaxBuffer)
	r.Write([]byte("###"))
	r.Clear()
	r.Write(bytes.Repeat([]byte("a"), most))
	r.Write([]byte("\r\n"))
	if _, err := r.Line(most - 1); err != api.ErrLong {
		t.Errorf("Line: %v", err)
	}
	if b, err := r.Line(most); len(b) != most || err != nil {
		t.Errorf("Line: %d bytes, %v", len(b), err)
	}
	holds(t, r, api.MaxBuffer, "")
}

// RI4: what was handed in may be written over afterwards, and is not changed.
func TestWriteKeepsNothing(t *testing.T) {
	r := turned(t, 6, 4, "")
	b := []byte("abcd\r\nxyz")
	r.Write(b[:6])
	if string(b) != "abcd\r\nxyz" {
		t.Errorf("Write changed its argument: %q", b)
	}
	clear(b)
	holds(t, r, 6, "abcd\r\n")
	if b, err := r.Line(4); string(b) != "abcd" || err != nil {
		t.Errorf("Line = %q, %v", b, err)
	}
}

// RI4: what was handed out may be written over, spare room too, and does not change by itself.
func TestAnswersAreNewMemory(t *testing.T) {
	for turn := range 8 {
		r := turned(t, 8, turn, "ab\r\ncdef")
		spoil(r.Peek(8))
		spoil(r.Peek(3))
		holds(t, r, 8, "ab\r\ncdef")
		line, err := r.Line(2)
		if err != nil {
			t.Fatal(err)
		}
		read := r.Read(2)
		peek := r.Peek(2)
		r.Clear()
		r.Write([]byte("zzzzzzzz"))
		if string(line) != "ab" || string(read) != "cd" || string(peek) != "ef" {
			t.Errorf("%q, %q, %q changed behind the call", line, read, peek)
		}
		spoil(line)
		spoil(read)
		spoil(peek)
		holds(t, r, 8, "zzzzzzzz")
	}
}

// spoil writes over a list, and over its spare room.
func spoil(b []byte) {
	b = b[:cap(b)]
	for i := range b {
		b[i] = '!'
	}
}

// RI4: a Clone has the same, and neither sees what is done to the other.
func TestClone(t *testing.T) {
	for turn := range 7 {
		r := turned(t, 6, turn, "abcd")
		c := r.Clone()
		holds(t, c, 6, "abcd")
		if c == r {
			t.Fatal("Clone is the ring itself")
		}
		r.Skip(1)
		r.Write([]byte("123456"))
		holds(t, c, 6, "abcd")
		holds(t, r, 6, "bcd123")
		c.Skip(2)
		c.Write([]byte("\r\nxyz"))
		holds(t, c, 6, "cd\r\nxy")
		holds(t, r, 6, "bcd123")
		if b, err := c.Line(2); string(b) != "cd" || err != nil {
			t.Errorf("Line = %q, %v", b, err)
		}
		r.Clear()
		holds(t, c, 6, "xy")
		holds(t, c.Clone(), 6, "xy")
	}
	holds(t, fresh(t, 3).Clone(), 3, "")
}

// RI4: every call of a nil Ring.
func TestNilRing(t *testing.T) {
	var r *Ring
	if r.Len() != 0 || r.Room() != 0 || r.Size() != 0 || r.Clear() != 0 || r.Clone() != nil {
		t.Error("Len, Room, Size, Clear or Clone of nil")
	}
	if r.Write(nil) != 0 || r.Write([]byte("abc")) != 0 {
		t.Error("Write to nil")
	}
	for _, n := range append([]int{-1, 0, 1, 2}, extremes...) {
		if len(r.Peek(n)) != 0 || len(r.Read(n)) != 0 || r.Skip(n) != 0 {
			t.Errorf("Peek, Read or Skip(%d) of nil", n)
		}
		if c, ok := r.At(n); c != 0 || ok {
			t.Errorf("At(%d) of nil = %d, %v", n, c, ok)
		}
		if i := r.Index(0, n); i != -1 {
			t.Errorf("Index(0, %d) of nil = %d", n, i)
		}
		want := api.ErrNone
		if n < 0 {
			want = api.ErrArg
		}
		if b, err := r.Line(n); b != nil || err != want {
			t.Errorf("Line(%d) of nil = %q, %v", n, b, err)
		}
	}
}

// linesOf writes pieces and takes, behind each of them, what lines there are: these, and the last error.
func linesOf(t *testing.T, pieces []string, turn, most int) (lines []string, last error) {
	t.Helper()
	r := turned(t, 6, turn, "")
	for _, p := range pieces {
		if n := r.Write([]byte(p)); n != len(p) {
			t.Fatalf("Write(%q) = %d", p, n)
		}
		for {
			var b []byte
			if b, last = r.Line(most); last != nil {
				break
			}
			lines = append(lines, string(b))
		}
	}
	return lines, last
}

// RI5: every text of up to 6 bytes, cut into Writes in every way.
func TestCutsChangeNoLine(t *testing.T) {
	texts("a\r\n", 6, func(text string) {
		if text == "" {
			return
		}
		for most := range 4 {
			lines, last := linesOf(t, []string{text}, 0, most)
			for cuts := range 1 << (len(text) - 1) {
				got, err := linesOf(t, cut(text, cuts), cuts%7, most)
				if !slices.Equal(got, lines) || err != last {
					t.Fatalf("%q cut by %b: %q, %v, not %q, %v", text, cuts, got, err, lines, last)
				}
			}
		}
	})
}

// cut is text in pieces; the bit i of cuts says that there is a cut behind the byte i.
func cut(text string, cuts int) []string {
	var pieces []string
	from := 0
	for i := 1; i < len(text); i++ {
		if cuts>>(i-1)&1 == 1 {
			pieces = append(pieces, text[from:i])
			from = i
		}
	}
	return append(pieces, text[from:])
}

// RI5: a long row of calls, against a plain list of bytes; the bytes go round the ring's end many times.
func TestAgainstAList(t *testing.T) {
	for _, size := range []int{1, 2, 3, 5, 8, 13, 64} {
		chance := rand.New(rand.NewSource(int64(size)))
		r, model, round := fresh(t, size), "", 0
		for range 20000 {
			round += step(t, r, &model, chance)
			holds(t, r, size, model)
		}
		if round < 100*size {
			t.Errorf("size %d: only %d bytes went through", size, round)
		}
	}
}

// step does one call to the ring and to the model: how many bytes were written.
func step(t *testing.T, r *Ring, model *string, chance *rand.Rand) int {
	t.Helper()
	n := chance.Intn(r.Size()+3) - 1
	took := max(0, min(n, len(*model)))
	switch chance.Intn(6) {
	case 0:
		if b := r.Read(n); string(b) != (*model)[:took] {
			t.Fatalf("Read(%d) = %q of %q", n, b, *model)
		}
		*model = (*model)[took:]
	case 1:
		if got := r.Skip(n); got != took {
			t.Fatalf("Skip(%d) = %d of %q", n, got, *model)
		}
		*model = (*model)[took:]
	case 2:
		line, rest, want := wantLine(*model, n)
		b, err := r.Line(n)
		if string(b) != line || err != want || bytes.ContainsAny(b, "\r\n") {
			t.Fatalf("Line(%d) = %q, %v of %q", n, b, err, *model)
		}
		*model = rest
	default:
		b := make([]byte, max(0, n))
		for i := range b {
			b[i] = "abc\r\n\x00\xff"[chance.Intn(7)]
		}
		got := r.Write(b)
		if got != min(len(b), r.Size()-len(*model)) {
			t.Fatalf("Write of %d bytes = %d behind %d", len(b), got, len(*model))
		}
		*model += string(b[:got])
		return got
	}
	return 0
}

// RI5: a text much longer than the ring comes through it whole, in order, each byte once.
func TestWhatIsReadIsWhatWasWritten(t *testing.T) {
	chance := rand.New(rand.NewSource(1))
	text := make([]byte, 100000)
	for i := range text {
		text[i] = byte(chance.Intn(256))
	}
	for _, size := range []int{1, 2, 7, 100} {
		r := fresh(t, size)
		var out []byte
		for rest := text; len(rest) > 0 || r.Len() > 0; {
			rest = rest[r.Write(rest[:min(len(rest), chance.Intn(2*size+1))]):]
			if r.Len() > size {
				t.Fatalf("%d bytes in a ring of %d", r.Len(), size)
			}
			out = append(out, r.Read(chance.Intn(size+1))...)
		}
		if !bytes.Equal(out, text) {
			t.Errorf("size %d: %d bytes came out, not those that went in", size, len(out))
		}
	}
}
