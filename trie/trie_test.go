package trie

import (
	"fmt"
	"math"
	"slices"
	"strings"
	"testing"
	"turnstile/api"
)

// TR2: the chapter's examples.
func TestExamples(t *testing.T) {
	b := of(t, "/a/:id", "/a/b", "/*all")
	b.find("/a/b", 2)
	b.find("/a/c", 1, fieldsOf("id", "c")...)
	b.find("/a/c/d", 3, fieldsOf("all", "a/c/d")...)
	b.add("/a/:x", 4, api.ErrTwice)
	b.find("/a/b", 2)
	b.find("/a/c", 1, fieldsOf("id", "c")...)
	b.find("/a/c/d", 3, fieldsOf("all", "a/c/d")...)
	if got := b.trie.All(); !slices.Equal(got, []string{"/a/:id", "/a/b", "/*all"}) || b.trie.Len() != 3 {
		t.Errorf("All: %q, Len: %d", got, b.trie.Len())
	}
}

// TR2: a trie without patterns, and with one.
func TestFew(t *testing.T) {
	b := newBoth(t)
	if b.trie.Len() != 0 || len(b.trie.All()) != 0 {
		t.Errorf("Len: %d, All: %q", b.trie.Len(), b.trie.All())
	}
	for _, path := range []string{"/", "//", "/a", "/:", "/*", strings.Repeat("/", 100)} {
		b.findNot(path, api.ErrNone)
	}
	noPaths := []string{"", "a", "a/b", " /", "\x00", "*all", ":a", "\xff/"}
	for _, path := range noPaths {
		b.findNot(path, api.ErrForm)
	}
	b.add("/a/:id", 7, nil)
	b.find("/a/b", 7, fieldsOf("id", "b")...)
	for _, path := range []string{"/", "/a", "/a/", "/b/b", "/a/b/", "/a/b/c", "//a/b"} {
		b.findNot(path, api.ErrNone)
	}
	for _, path := range append(noPaths, "a/b", "a/:id") {
		b.findNot(path, api.ErrForm)
	}
	if New() == New() {
		t.Error("two tries are one")
	}
	newBoth(t).findNot("/a/b", api.ErrNone)
}

// TR2: a pattern that is there but for its tokens is refused, and what is there stays.
func TestTwice(t *testing.T) {
	for _, c := range [][]string{
		{"/", "/"}, {"//", "//"}, {"/a", "/a"}, {"/a/", "/a/"}, {"/:x", "/:x", "/:y", "/:X", "/:xx", "/:*"}, {"/*x", "/*x", "/*y", "/*X", "/**"},
		{"/a/:x", "/a/:y"}, {"/:x/a", "/:y/a"}, {"/:x/:y", "/:y/:x", "/:a/:b", "/:x/:z"}, {"/a/*x", "/a/*y"}, {"/:x/*y", "/:y/*x", "/:a/*b"},
		{"/a/:x/b/:y/*z", "/a/:z/b/:x/*y"}, {"/a:b", "/a:b"}, {"/a*b", "/a*b"}, {rows(48, "/:%d"), rows(48, "/:x%d")},
	} {
		b := of(t, c[0], "/other/*rest")
		for i, p := range c[1:] {
			b.add(p, 100+i, api.ErrTwice)
		}
		b.same(c[0]) // which is a path, too, that the pattern fits
		b.same("/other/a")
		b.same("/none/a/b/c")
	}
}

// TR2: what parts in a kind, in a plain segment or in how many there are is another pattern.
func TestNotTwice(t *testing.T) {
	b := of(t, "/", "//", "///", "/a", "/A", "/a/", "/:x", "/:x/", "/*x", "/a/:x", "/a/*x", "/a/b", "/:x/b", "/:x/:y", "/:x/*y", "//:x", "//*x", "/:x//", "/a:", "/a:x", "/a*", "/a*x", "/x", "/a/:x/b", "/a/:x/*y")
	for _, p := range b.trie.All() {
		b.add(p, 1, api.ErrTwice)
	}
	for _, path := range []string{"/", "//", "///", "////", "/a", "/A", "/a/", "/b", "/b/", "/a/b", "/a/c", "/b/b", "/c/c", "//a", "//a/b", "/b//", "/a:", "/a:x", "/a*", "/a*x", "/x", "/a/c/b", "/a/c/c", "/a/c/", "/:", "/:x", "/*", "/*x", "/a/:", "/a/*", "/:/b", "/*/b"} {
		b.same(path)
	}
}

// TR2: a refused pattern leaves no trace, be it none or there already.
func TestRefused(t *testing.T) {
	b := newBoth(t)
	wrong := []string{"", "a", "a/b", "/:", "/*", "/a/:", "/a/b/*", "/*a/b", "/a/*b/c", "/:a/:a", "/:a/*a", "/a b", "/a/b/\x7f", "/a/é", "/" + strings.Repeat("a", 256), rows(65, "/a"), rows(64, "/a") + "/*r"}
	paths := []string{"/", "/a", "/a/b", "/a/b/c", "/x", "/x/y", "/x/y/z", rows(64, "/a"), rows(65, "/a")}
	for _, p := range wrong {
		b.add(p, 5, api.ErrForm)
	}
	for _, path := range paths {
		b.findNot(path, api.ErrNone)
	}
	b.add("/x/:y", 1, nil)
	b.add("/a/b/*c", 2, nil)
	for i, p := range append(wrong, wrong...) {
		b.add(p, 5+i, api.ErrForm)
		b.add("/x/:z", 50+i, api.ErrTwice)
		b.add("/a/b/*z", 70+i, api.ErrTwice)
	}
	for _, path := range paths {
		b.same(path)
	}
	b.find("/x/y", 1, fieldsOf("y", "y")...)
	b.find("/a/b/c", 2, fieldsOf("c", "c")...)
	b.findNot("/a/b", api.ErrNone)
}

// TR2: a number is any, and several patterns may have one.
func TestNumbers(t *testing.T) {
	b := newBoth(t)
	ids := []int{0, -1, 1, math.MaxInt, math.MinInt, 1 << 40, 0, -1}
	for i, id := range ids {
		b.add(fmt.Sprintf("/p%d", i), id, nil)
		b.add(fmt.Sprintf("/q%d/:x", i), id, nil)
		b.add(fmt.Sprintf("/q%d/:y", i), id, api.ErrTwice)
		b.add(fmt.Sprintf("/r%d/*x", i), id, nil)
	}
	for i, id := range ids {
		b.find(fmt.Sprintf("/p%d", i), id)
		b.find(fmt.Sprintf("/q%d/a", i), id, fieldsOf("x", "a")...)
		b.find(fmt.Sprintf("/r%d/", i), id, fieldsOf("x", "")...)
	}
}

// TR2: where the better way does not fit further, a worse one does.
func TestWaysBack(t *testing.T) {
	b := of(t, "/a/b/c", "/a/:x/d", "/:x/b/e", "/a/*r", "/:x/:y/f", "/:x/*r", "/*r")
	b.find("/a/b/c", 1)
	b.find("/a/b/d", 2, fieldsOf("x", "b")...)
	b.find("/a/b/e", 4, fieldsOf("r", "b/e")...)
	b.find("/z/b/e", 3, fieldsOf("x", "z")...)
	b.find("/a/b/f", 4, fieldsOf("r", "b/f")...)
	b.find("/z/b/f", 5, fieldsOf("x", "z", "y", "b")...)
	b.find("/z/b/g", 6, fieldsOf("x", "z", "r", "b/g")...)
	b.find("/z/b", 6, fieldsOf("x", "z", "r", "b")...)
	b.find("/z/", 6, fieldsOf("x", "z", "r", "")...)
	b.find("/z", 7, fieldsOf("r", "z")...)
	b.find("/a", 7, fieldsOf("r", "a")...)
	b.find("/a/", 4, fieldsOf("r", "")...)
	b.find("/", 7, fieldsOf("r", "")...)
	b.find("//b/e", 7, fieldsOf("r", "/b/e")...)
	b.find("/a/b/c/d", 4, fieldsOf("r", "b/c/d")...)
	b.find("/a//d", 4, fieldsOf("r", "/d")...)

	b = of(t, "/a/b/c/d", "/:x/b/c/e", "/a/:x/c/f", "/a/b/:x/g", "/:w/:x/:y/:z")
	b.find("/a/b/c/d", 1)
	b.find("/a/b/c/e", 2, fieldsOf("x", "a")...)
	b.find("/a/b/c/f", 3, fieldsOf("x", "b")...)
	b.find("/a/b/c/g", 4, fieldsOf("x", "c")...)
	b.find("/a/b/c/h", 5, fieldsOf("w", "a", "x", "b", "y", "c", "z", "h")...)
	b.findNot("/a/b/c", api.ErrNone)
	b.findNot("/a/b/c/", api.ErrNone)
	b.findNot("/a/b/c/d/", api.ErrNone)

	b = of(t, "/:x/a", "/a/:y/b")
	b.find("/a/a", 1, fieldsOf("x", "a")...)
	b.findNot("/a/b", api.ErrNone)
	b.find("/a/a/b", 2, fieldsOf("y", "a")...)
}

// TR2: each has the names of its own tokens, where several go the same way.
func TestTokensOfTheirOwn(t *testing.T) {
	b := of(t, "/:a/x", "/:b/y", "/:c/:d", "/:e/*f", "/:g", "/:g/", "/*h")
	b.find("/1/x", 1, fieldsOf("a", "1")...)
	b.find("/1/y", 2, fieldsOf("b", "1")...)
	b.find("/1/z", 3, fieldsOf("c", "1", "d", "z")...)
	b.find("/1/x/y", 4, fieldsOf("e", "1", "f", "x/y")...)
	b.find("/1", 5, fieldsOf("g", "1")...)
	b.find("/1/", 6, fieldsOf("g", "1")...)
	b.find("/", 7, fieldsOf("h", "")...)
	b.find("//x", 7, fieldsOf("h", "/x")...)
}

// TR2: a path's segment that looks like a parameter or the rest is but a text.
func TestPathsLikePatterns(t *testing.T) {
	b := of(t, "/:id", "/*all", "/a/*all", "/a/:id", "/:id/b")
	for _, s := range []string{":", "*", ":id", "*all", ":x", "**"} {
		b.find("/"+s, 1, fieldsOf("id", s)...)
		b.find("/a/"+s, 4, fieldsOf("id", s)...)
		b.find("/a/"+s+"/b", 3, fieldsOf("all", s+"/b")...)
		b.find("/"+s+"/b", 5, fieldsOf("id", s)...)
		b.find("/"+s+"/c", 2, fieldsOf("all", s+"/c")...)
	}
	b = of(t, "/a", "/:id/a")
	b.findNot("/:id", api.ErrNone)
	b.findNot("/*", api.ErrNone)
	b.find("/:id/a", 2, fieldsOf("id", ":id")...)
	b = of(t, "/*all")
	b.find("/*all", 1, fieldsOf("all", "*all")...)
	b.find("/*all/a", 1, fieldsOf("all", "*all/a")...)
}

// TR2: paths that are longer than any pattern, and of any bytes.
func TestLongPaths(t *testing.T) {
	b := of(t, rows(64, "/a"), rows(63, "/a")+"/*r", "/b/*r", "/:x")
	b.find(rows(64, "/a"), 1)
	b.find(rows(65, "/a"), 2, fieldsOf("r", "a/a")...)
	b.find(rows(1000, "/a"), 2, fieldsOf("r", rows(937, "/a")[1:])...)
	b.find(rows(63, "/a")+"/", 2, fieldsOf("r", "")...)
	b.findNot(rows(63, "/a"), api.ErrNone)
	b.findNot(rows(62, "/a")+"/b/a", api.ErrNone)
	long := strings.Repeat("/\x00\xff", 1<<18)
	b.find("/b"+long, 3, fieldsOf("r", long[1:])...)
	b.findNot(long, api.ErrNone)
	b.findNot("/c"+long, api.ErrNone)
	word := strings.Repeat("é", 1<<18)
	b.find("/"+word, 4, fieldsOf("x", word)...)
	b.findNot("/"+word+"/", api.ErrNone)
	b.findNot(strings.Repeat("/", 1<<18), api.ErrNone)
}

// TR2: a great many patterns, also such as go the same ways for long.
func TestMany(t *testing.T) {
	b := &both{T: t, trie: New()}
	lay := func(p string) {
		if err := b.trie.Add(p, len(b.row)); err != nil {
			t.Fatal(p, err)
		}
		b.row = append(b.row, item{p, len(b.row)})
	}
	for i := range 1 << 9 {
		var p strings.Builder
		for k := range 9 {
			if i>>k&1 == 0 {
				p.WriteString("/a")
			} else {
				fmt.Fprintf(&p, "/:x%d", k)
			}
		}
		lay(p.String() + fmt.Sprintf("/%d", i))
	}
	for i := range 500 {
		lay(fmt.Sprintf("/n%d/b%d", i%37, i))
		lay(fmt.Sprintf("/n%d/:y/c%d", i%37, i))
		lay(fmt.Sprintf("/n%d/:y/c%d/*r", i%37, i))
	}
	b.state()
	for _, i := range []int{0, 1, 2, 255, 256, 300, 510, 511, 512} {
		b.same(rows(9, "/a") + fmt.Sprintf("/%d", i))
		b.same(rows(8, "/a") + fmt.Sprintf("/b/%d", i))
		b.same("/b" + rows(7, "/b") + fmt.Sprintf("/a/%d", i))
		b.same(rows(9, "/b") + fmt.Sprintf("/%d", i))
		b.same(fmt.Sprintf("/n%d/b%d", i%37, i))
		b.same(fmt.Sprintf("/n%d/b%d/c%d", i%37, i, i))
		b.same(fmt.Sprintf("/n%d/b%d/c%d/d", i%37, i, i))
		b.same(fmt.Sprintf("/n%d/c%d", i%37, i))
	}
}

// TR2: what is there is told by Len and All as it was laid in, with its own tokens.
func TestLenAndAll(t *testing.T) {
	b := newBoth(t)
	patterns := []string{"/b", "/a", "/:x", "/*x", "/a/:B", "/a/*b", "/", "//", "/c/:long-Token/x", "/0"}
	for i, p := range patterns {
		b.add(p, -i, nil)
		if got := b.trie.All(); b.trie.Len() != i+1 || !slices.Equal(got, patterns[:i+1]) {
			t.Errorf("Len: %d, All: %q", b.trie.Len(), got)
		}
	}
}

// A nil trie, of which the chapter does not speak, has no patterns and takes none.
func TestNilTrie(t *testing.T) {
	var none *Trie
	if n, l := none.Len(), none.All(); n != 0 || len(l) != 0 {
		t.Errorf("Len: %d, All: %q", n, l)
	}
	if id, l, err := none.Find("/"); id != 0 || l != nil || err != api.ErrNone {
		t.Errorf("Find: %d, %q, %v", id, l, err)
	}
	if _, _, err := none.Find("a"); err != api.ErrForm {
		t.Error(err)
	}
	if err := none.Add("/", 1); err != api.ErrNone {
		t.Error(err)
	}
	if err := none.Add("", 1); err != api.ErrForm {
		t.Error(err)
	}
	if zero := new(Trie); zero.Add("/a", 1) != nil || zero.Len() != 1 {
		t.Error("a trie that New did not make takes no pattern")
	}
}
