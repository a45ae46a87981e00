package mac

import (
	"encoding/binary"
	"hash/fnv"
	"math"
	"math/rand"
	"strings"
	"testing"
)

// hashTold is the hash as the library has it.
func hashTold(s string) uint64 {
	h := fnv.New64a()
	h.Write([]byte(s))
	return h.Sum64()
}

func checkHash(t *testing.T, s string) {
	t.Helper()
	if got, want := Hash(s), hashTold(s); got != want {
		t.Fatalf("Hash of %d bytes (%.40q) = %x, not %x", len(s), s, got, want)
	}
}

// MA2: hashes told elsewhere: the chapter's examples, and those of FNV's authors.
func TestHashKnown(t *testing.T) {
	for _, c := range []struct {
		text string
		want uint64
	}{
		{"", 14695981039346656037},
		{"a", 0xaf63dc4c8601ec8c},
		{"b", 0xaf63df4c8601f1a5},
		{"fo", 0x08985907b541d342},
		{"foobar", 0x85944171f73967e8},
	} {
		if got := Hash(c.text); got != c.want {
			t.Errorf("Hash(%q) = %x, not %x", c.text, got, c.want)
		}
	}
}

// MA2: one byte of each value, alone and within a text: bytes are taken, and no characters.
func TestHashEveryByte(t *testing.T) {
	for value := range 256 {
		one := string([]byte{byte(value)})
		checkHash(t, one)
		checkHash(t, "ab"+one+"cd")
		if got, want := Hash(one), (14695981039346656037^uint64(value))*1099511628211; got != want {
			t.Errorf("Hash(%q) = %x, not %x", one, got, want)
		}
	}
	for _, s := range []string{"é", "日本", "\xff\xfe", "\xe6\x97", "a\x00b", "\x00", "\x00\x00", "😀x"} {
		checkHash(t, s)
	}
}

// MA2: texts of every length up to some hundred, and long ones.
func TestHashEveryLength(t *testing.T) {
	for n := range 400 {
		checkHash(t, string(mixture(n)))
		checkHash(t, strings.Repeat("\x00", n))
		checkHash(t, strings.Repeat("\xff", n))
	}
	for _, n := range []int{1 << 16, 1<<20 + 1} {
		checkHash(t, string(mixture(n)))
	}
}

// MA2: HashAll is the hash of the texts with a nought behind each, behind the last one too.
func TestHashAll(t *testing.T) {
	r := rand.New(rand.NewSource(2))
	lists := [][]string{nil, {}, {""}, {"", ""}, {"a"}, {"a", "b"}, {"b", "a"}, {"ab"}, {"a\x00b"}, {"é", "\xff"}}
	for k := range 200 {
		list := make([]string, r.Intn(20))
		for i := range list {
			list[i] = string(mixture(r.Intn(k + 1)))
		}
		lists = append(lists, list)
	}
	for _, list := range lists {
		whole := ""
		for _, s := range list {
			whole += s + "\x00"
		}
		if got, want := HashAll(list), hashTold(whole); got != want {
			t.Errorf("HashAll(%.80q) = %x, not %x", list, got, want)
		}
	}
}

// MA2: no text and one empty text are told apart, and so are texts that are the same bytes when laid together.
func TestHashAllApart(t *testing.T) {
	if HashAll(nil) != 14695981039346656037 || HashAll([]string{}) != HashAll(nil) {
		t.Errorf("HashAll of none = %x", HashAll(nil))
	}
	seen := map[uint64][]string{}
	for _, list := range [][]string{
		nil, {""}, {"", ""}, {"", "", ""},
		{"abc"}, {"a", "bc"}, {"ab", "c"}, {"a", "b", "c"}, {"", "abc"}, {"abc", ""}, {"", "a", "bc"}, {"a", "", "bc"},
	} {
		hash := HashAll(list)
		if other, found := seen[hash]; found {
			t.Errorf("HashAll of %q and of %q = %x", list, other, hash)
		}
		seen[hash] = list
	}
	if HashAll([]string{"a"}) == Hash("a") || HashAll([]string{""}) == Hash("") {
		t.Errorf("no nought stands behind one text")
	}
}

// MA2, rule 3: a list is not changed.
func TestHashAllLeavesItsArgument(t *testing.T) {
	room := []string{"b", "a", "", "spare"}
	HashAll(room[:3])
	if strings.Join(room, ",") != "b,a,,spare" {
		t.Errorf("the list became %q", room)
	}
}

// MA2: a number's bytes, the highest first.
func TestBytes(t *testing.T) {
	for _, c := range []struct {
		n    uint64
		want [8]byte
	}{
		{0, [8]byte{}},
		{1, [8]byte{7: 1}},
		{255, [8]byte{7: 255}},
		{256, [8]byte{6: 1}},
		{258, [8]byte{6: 1, 7: 2}},
		{1 << 31, [8]byte{4: 128}},
		{1 << 32, [8]byte{3: 1}},
		{1 << 63, [8]byte{0: 128}},
		{math.MaxInt64, [8]byte{127, 255, 255, 255, 255, 255, 255, 255}},
		{math.MaxUint64, [8]byte{255, 255, 255, 255, 255, 255, 255, 255}},
		{0x0123456789abcdef, [8]byte{0x01, 0x23, 0x45, 0x67, 0x89, 0xab, 0xcd, 0xef}},
	} {
		if got := Bytes(c.n); got != c.want {
			t.Errorf("Bytes(%d) = %v, not %v", c.n, got, c.want)
		}
	}
	for bit := range 64 {
		n := uint64(1) << bit
		for _, m := range []uint64{n, n - 1, ^n} {
			if got := Bytes(m); binary.BigEndian.Uint64(got[:]) != m {
				t.Errorf("Bytes(%x) = %x", m, got)
			}
		}
	}
}
