package chunk

import (
	"slices"
	"strings"
	"testing"
	"turnstile/api"
)

// CK5: Whole of Encodes and a Last is the bytes and the trailers, and takes all.
func TestWholeOfEncoded(t *testing.T) {
	m := newMaker(1)
	for range 20000 {
		s, want := "", ""
		for range m.Intn(5) {
			piece := m.bytes(40)
			want += piece
			s += string(Encode([]byte(piece)))
		}
		var l []api.Field
		for range m.Intn(5) {
			l = append(l, api.Field{Name: m.of("a", "B-c", "~", tokenBytes), Value: strings.Trim(m.row(4, "v", " ", "\t", ":", "\xff", "0"), " \t")})
		}
		last, err := Last(l)
		if err != nil {
			t.Fatalf("Last(%q): %v", l, err)
		}
		s += string(last)
		all := answer{taken: len(s), body: want, trailers: l, done: true}
		checkWhole(t, len(want), s, all)
		checkWhole(t, 1<<40, s+m.bytes(5), all)
		if len(want) > 0 {
			if _, _, _, err := Whole([]byte(s), len(want)-1); err != api.ErrBody {
				t.Fatalf("Whole(%q, %d): %v", s, len(want)-1, err)
			}
		}
	}
}

// CK5: also of many bytes, and of as many trailers and as long lines as may be.
func TestWholeOfMuch(t *testing.T) {
	for _, n := range []int{1, 255, 256, 65535, 65536, 1 << 20} {
		b := strings.Repeat("abc\r\n\x00", n/6+1)[:n]
		for _, few := range []int{0, 63} {
			l, _ := linesOf(8192, few, false)
			last, err := Last(l)
			if err != nil {
				t.Fatal(err)
			}
			s := string(Encode([]byte(b))) + string(Encode(nil)) + string(Encode([]byte(b))) + string(last)
			checkWhole(t, 2*n, s, answer{taken: len(s), body: b + b, trailers: l, done: true})
		}
	}
}

// faulty is bodies that go well, and others with a wrong byte or none at some place.
func faulty() []string {
	texts := well()
	for _, s := range well() {
		for _, at := range []int{0, 1, 2, 3, 5, 8, len(s) / 2, len(s) - 3, len(s) - 1} {
			at = min(at, len(s)-1)
			for _, wrong := range []string{"\n", "\x00", " ", "\r", "z"} {
				texts = append(texts, s[:at]+wrong+s[at:])
			}
			texts = append(texts, s[:at])
		}
		texts = append(texts, s+"body\n")
	}
	return texts
}

// CK5: every cut into two feeds, and into three of short texts.
func TestEveryCut(t *testing.T) {
	for _, s := range faulty() {
		for _, most := range []int{0, 5, 100} {
			checkAll(t, most, s)
			for i := range len(s) + 1 {
				check(t, most, s[:i], s[i:])
				check(t, most, s[:i], "", s[i:], "")
			}
			if len(s) > 30 {
				continue
			}
			for i := range len(s) + 1 {
				for j := i; j <= len(s); j++ {
					check(t, most, s[:i], s[i:j], s[j:])
				}
			}
		}
	}
}

// CK2, CK5: every byte at every place of some bodies, in the place of another and ahead of it.
func TestEveryByteEverywhere(t *testing.T) {
	for _, s := range well() {
		for i := range len(s) {
			for c := range 256 {
				for _, changed := range []string{s[:i] + one(c) + s[i+1:], s[:i] + one(c) + s[i:]} {
					want := check(t, 100, changed)
					check(t, 100, changed[:i], changed[i:i+1], changed[i+1:])
					checkWhole(t, 100, changed, want)
				}
			}
		}
	}
}

// CK5: every short text of some bytes, behind some begins.
func TestEveryShortText(t *testing.T) {
	const some = "01a:;\r\n \x80"
	for _, ahead := range []string{"", "1", "1\r\n", "1\r\nx", "0\r\n", "0\r\nx", "0\r\nx:y", "0\r\nx:\r\n", "0;"} {
		row := []string{""}
		for range 4 {
			var longer []string
			for _, s := range row {
				for i := range len(some) {
					longer = append(longer, s+some[i:i+1])
				}
			}
			for _, s := range longer {
				checkAll(t, 2, ahead+s)
			}
			row = longer
		}
	}
}

// CK1 to CK5: any bodies, spoilt or not, however cut, with any most.
func TestAnyBodies(t *testing.T) {
	m := newMaker(2)
	well, wrong := 0, map[error]int{}
	for range 40000 {
		s := m.spoilt(m.body()) + m.row(1, "x", "\r\n", "\n")
		most := 1000
		if m.Intn(4) == 0 {
			most = m.Intn(30)
		}
		want := check(t, most, s)
		check(t, most, m.cut(s)...)
		checkWhole(t, most, s, want)
		if want.done {
			well++
		}
		wrong[want.err]++
	}
	if well < 10000 || wrong[api.ErrChunk] < 5000 || wrong[api.ErrField] < 500 || wrong[api.ErrBody] < 1000 || len(wrong) != 4 {
		t.Errorf("%d bodies, errors %v", well, wrong)
	}
}

// CK5: never more than most bytes are told, whatever comes.
func TestNeverMoreThanMost(t *testing.T) {
	m := newMaker(3)
	for range 20000 {
		most := m.Intn(20)
		r := newReader(t, most)
		told := 0
		for range 10 {
			_, body, _, _ := r.Feed([]byte(m.of(m.chunk(), m.chunk(), m.bytes(9), "1\r\nx\r\n", "0\r\n\r\n")))
			told += len(body)
		}
		if told > most || r.Len() != told {
			t.Fatalf("%d bytes of at most %d, Len %d", told, most, r.Len())
		}
	}
}

// Rule 1: any bytes: nothing panics, and all is as the chapter says.
func TestNothingPanics(t *testing.T) {
	m := newMaker(4)
	for range 20000 {
		b := make([]byte, m.Intn(40))
		m.Read(b)
		body := m.body()
		checkAll(t, m.Intn(60), body[:m.Intn(len(body)+1)]+string(b))
		Encode(b)
		Last(fieldsOf(string(b), string(b)))
		Whole(b, m.Intn(9)-4)
	}
	var zero Reader
	zero.Feed([]byte("1\r\nx\r\n0\r\n\r\n"))
	zero.Clone().Trailers()
}

// Rule 4: readers that are fed in turns have nothing in common.
func TestReadersInTurns(t *testing.T) {
	m := newMaker(5)
	for range 2000 {
		one, two := m.body(), m.spoilt(m.body())
		a, b := newReader(t, 300), newReader(t, 300)
		for i := range max(len(one), len(two)) {
			a.Feed([]byte(one[min(i, len(one)):min(i+1, len(one))]))
			b.Feed([]byte(two[min(i, len(two)):min(i+1, len(two))]))
		}
		checkReader(t, a, of(one, 300))
		checkReader(t, b, of(two, 300))
		if t.Failed() {
			t.Fatalf("%q and %q", one, two)
		}
	}
}

// CK3, CK5: trailers that were told stay, however many more come.
func TestTrailersStay(t *testing.T) {
	r := newReader(t, 0)
	r.Feed([]byte("0\r\n"))
	var told [][]api.Field
	for range 64 {
		r.Feed([]byte("a: b\r\n"))
		told = append(told, r.Trailers())
	}
	for i, l := range told {
		if !slices.Equal(l, slices.Repeat(fieldsOf("a", "b"), i+1)) {
			t.Errorf("%d trailers became %q", i+1, l)
		}
	}
}
