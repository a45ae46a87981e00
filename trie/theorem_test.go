package trie

import (
	"fmt"
	"slices"
	"strings"
	"testing"
	"turnstile/api"
	"unsafe"
)

// TR1: each short pattern against each short path.
func TestEachFit(t *testing.T) {
	patterns, paths := lawful(texts("/:*ab", 5)), begun(texts("/:*ab", 5))
	fitting := 0
	for _, p := range patterns {
		for _, path := range paths {
			want, fields := ofFit(p, path)
			fits, l, err := Fits(p, path)
			if fits != want || !slices.Equal(l, fields) || err != nil {
				t.Fatalf("Fits(%q, %q): %v, %q, %v, not %v, %q", p, path, fits, l, err, want, fields)
			}
			if fits {
				fitting++
			}
		}
	}
	if len(patterns) < 200 || fitting < 2000 {
		t.Errorf("%d patterns, and %d fits", len(patterns), fitting)
	}
}

// fitting is those of some patterns that fit a path.
func fitting(patterns []string, path string) []string {
	return slices.DeleteFunc(slices.Clone(patterns), func(p string) bool {
		fits, _ := ofFit(p, path)
		return !fits
	})
}

// beats is Beats of what is to have an answer.
func beats(t *testing.T, a, b, path string) bool {
	t.Helper()
	got, err := Beats(a, b, path)
	if err != nil {
		t.Fatalf("Beats(%q, %q, %q): %v", a, b, path, err)
	}
	return got
}

// TR3: of two patterns that fit one path, and that can both be laid in, just one is better, and one that is better than a better one is better.
func TestJustOneIsBetter(t *testing.T) {
	patterns := lawful(texts("/:*ab", 6))
	pairs := 0
	for _, path := range []string{"/", "//", "///", "/a", "/b", "/:", "/*", "/a/", "//a", "/a/a", "/a/b", "/b/a", "/a//", "//a/", "/a/b/", "/a/a/a", "/a/b/a", "/:a", "/*a", "/a*", "/a:/b"} {
		l := fitting(patterns, path)
		for _, a := range l {
			for _, b := range l {
				one, other := beats(t, a, b, path), beats(t, b, a, path)
				u := New()
				together := u.Add(a, 1) == nil && u.Add(b, 2) == nil
				if one && other || together != (one || other) || one != ofBetter(a, b) {
					t.Fatalf("%q and %q at %q: %v and %v, laid in together: %v", a, b, path, one, other, together)
				}
				if id, _, err := u.Find(path); err != nil || id == 1 != (one || !together) {
					t.Fatalf("%q (1) and %q (2) at %q: %d, %v", a, b, path, id, err)
				}
				pairs++
			}
		}
		for i := 0; i < len(l); i += 7 {
			for k := 0; k < len(l); k += 11 {
				for n := 0; n < len(l); n += 13 {
					a, b, c := l[i], l[k], l[n]
					if beats(t, a, b, path) && beats(t, b, c, path) && !beats(t, a, c, path) {
						t.Fatalf("%q, %q, %q at %q", a, b, c, path)
					}
				}
			}
		}
	}
	if pairs < 10000 {
		t.Errorf("only %d pairs", pairs)
	}
}

// orders is every order of some patterns.
func orders(l []string) [][]string {
	if len(l) == 0 {
		return [][]string{nil}
	}
	var all [][]string
	for i := range l {
		for _, o := range orders(slices.Concat(l[:i], l[i+1:])) {
			all = append(all, append([]string{l[i]}, o...))
		}
	}
	return all
}

// found is what Find answers, as one text.
func found(u *Trie, path string) string {
	id, l, err := u.Find(path)
	return fmt.Sprintf("%d %q %v", id, l, err)
}

// TR3: what is found does not hang on the order in which patterns were laid in.
func TestEveryOrder(t *testing.T) {
	paths := append(begun(texts("/ab", 5)), "", "a", "/:", "/*", "/c", "/a/c", "/a/b/c", "/c/c/c/c")
	for _, set := range [][]string{
		{"/a/:id", "/a/b", "/*all"},
		{"/a", "/:x", "/*x", "/", "//"},
		{"/a/b", "/a/:x", "/:x/b", "/:x/:y", "/*r"},
		{"/a/*r", "/:x/b/*r", "/:x/*r", "/a/b/a", "/:x/:y/:z", "/*r"},
		{"/a/b/:x", "/a/:x/b", "/:x/a/b", "/:a/:b/a", "/a/*b"},
	} {
		ids := map[string]int{}
		for i, p := range set {
			ids[p] = 10 + i
		}
		var want []string
		for _, order := range orders(set) {
			u := New()
			for _, p := range order {
				if err := u.Add(p, ids[p]); err != nil {
					t.Fatalf("Add(%q): %v", p, err)
				}
			}
			if got := u.All(); !slices.Equal(got, order) {
				t.Fatalf("All: %q, not %q", got, order)
			}
			var got []string
			for _, path := range paths {
				got = append(got, found(u, path))
			}
			if want == nil {
				want = got
			}
			if !slices.Equal(got, want) {
				t.Fatalf("in the order %q: %q, not %q", order, got, want)
			}
		}
	}
}

// TR2, TR3: any patterns laid in, spoilt or not, and any paths, against the chapter's words; then in another order.
func TestAnyTrie(t *testing.T) {
	m := newMaker(1)
	ends := map[error]int{}
	for range 1500 {
		b := newBoth(t)
		var paths []string
		for range m.Intn(30) {
			p := m.spoilt()
			err := b.trie.Add(p, len(b.row))
			if want := b.row.add(p, len(b.row)); err != want {
				t.Fatalf("Add(%q) to %q: %v, not %v", p, b.row.all(), err, want)
			}
			ends[err]++
			b.state()
			paths = append(paths, m.path(), m.path())
		}
		var other Trie
		for _, i := range m.Perm(len(b.row)) {
			if err := other.Add(b.row[i].pattern, b.row[i].id); err != nil {
				t.Fatalf("Add(%q): %v", b.row[i].pattern, err)
			}
		}
		for _, path := range paths {
			b.same(path)
			if got, want := found(&other, path), found(b.trie, path); got != want {
				t.Fatalf("Find(%q) in another order: %s, not %s", path, got, want)
			}
			_, _, err := b.trie.Find(path)
			ends[err]++
		}
		if t.Failed() {
			t.Fatalf("patterns %q", b.row.all())
		}
	}
	if len(ends) != 4 || ends[nil] < 15000 || ends[api.ErrForm] < 2000 || ends[api.ErrTwice] < 1000 || ends[api.ErrNone] < 3000 {
		t.Errorf("errors %v", ends)
	}
}

// TR1: any patterns, spoilt or not, and any paths.
func TestAnyPatterns(t *testing.T) {
	m := newMaker(2)
	ends := map[string]int{}
	for range 60000 {
		a, b, path := m.spoilt(), m.spoilt(), m.path()
		if ofCheck(a) && m.Intn(2) == 0 {
			b, path = m.alike(a), m.pathOf(a)
		}
		if m.Intn(2) == 0 {
			a, b = b, a
		}
		checkPattern(t, a, ofCheck(a))
		fits, l, err := Fits(a, path)
		wantFits, want, wantErr := ofFits(a, path)
		if fits != wantFits || !slices.Equal(l, want) || err != wantErr || !fits && l != nil {
			t.Fatalf("Fits(%q, %q): %v, %q, %v", a, path, fits, l, err)
		}
		better, err := ofBeats(a, b, path)
		checkBeats(t, a, b, path, better, err)
		ends[fmt.Sprint(better, err)]++
		if t.Failed() {
			t.FailNow()
		}
	}
	if len(ends) != 4 || ends["true <nil>"] < 3000 || ends["false <nil>"] < 3000 {
		t.Errorf("answers %v", ends)
	}
}

// Rule 1: nothing panics, whatever bytes it is given.
func TestAnyBytes(t *testing.T) {
	m := newMaker(3)
	u := New()
	for range 50000 {
		b := make([]byte, m.Intn(12))
		for i := range b {
			if b[i] = byte(m.Intn(256)); m.Intn(2) == 0 {
				b[i] = "/:*a"[m.Intn(4)]
			}
		}
		s := string(b)
		if m.Intn(2) == 0 {
			s = "/" + s
		}
		path := m.path() + s
		checkPattern(t, s, ofCheck(s))
		fits, l, err := Fits(s, path)
		wantFits, want, wantErr := ofFits(s, path)
		if fits != wantFits || !slices.Equal(l, want) || err != wantErr {
			t.Fatalf("Fits(%q, %q): %v, %q, %v", s, path, fits, l, err)
		}
		if err := u.Add(s, 1); (err == api.ErrForm) == ofCheck(s) {
			t.Fatalf("Add(%q): %v", s, err)
		}
		if _, _, err := u.Find(s); (err == api.ErrForm) == strings.HasPrefix(s, "/") {
			t.Fatalf("Find(%q): %v", s, err)
		}
	}
}

// within tells whether a text stands in the memory of another.
func within(part, whole string) bool {
	if part == "" || whole == "" {
		return false
	}
	from := uintptr(unsafe.Pointer(unsafe.StringData(whole)))
	at := uintptr(unsafe.Pointer(unsafe.StringData(part)))
	return at >= from && at < from+uintptr(len(whole))
}

// Rule 3: no text that is answered is a piece of one that was handed in, or of one that was answered ahead.
func TestTextsAreNewMemory(t *testing.T) {
	pattern, path := strings.Clone("/first/:second/*third"), strings.Clone("/first/path's/own/text")
	u := New()
	if err := u.Add(pattern, 1); err != nil {
		t.Fatal(err)
	}
	given := []string{pattern, path}
	hold := func(l ...string) {
		for _, s := range l {
			for _, g := range given {
				if within(s, g) || within(g, s) {
					t.Errorf("%q stands in the memory of %q", s, g)
				}
			}
			given = append(given, s)
		}
	}
	for range 3 {
		_, l, err := u.Find(path)
		fits, k, fitsErr := Fits(pattern, path)
		if err != nil || fitsErr != nil || !fits || len(l) != 2 || len(k) != 2 {
			t.Fatal(l, k, err, fitsErr)
		}
		for _, f := range slices.Concat(l, k) {
			hold(f.Name, f.Value)
		}
		hold(u.All()...)
	}
}

// written is a text whose bytes may be written over.
func written(s string) (string, []byte) {
	b := []byte(s)
	return unsafe.String(unsafe.SliceData(b), len(b)), b
}

// Rule 3: what was handed in is not kept: a trie stays as it was when the memory of its patterns and paths is written over.
func TestNothingHandedInIsKept(t *testing.T) {
	u := New()
	patterns := []string{"/a/:id", "/a/b", "/*all", "/long-segment/:long-token/*long-rest"}
	for i, p := range patterns {
		s, b := written(p)
		if err := u.Add(s, i+1); err != nil {
			t.Fatal(err)
		}
		clear(b)
		s, b = written(p)
		if err := u.Add(s, 9); err != api.ErrTwice {
			t.Fatal(err)
		}
		clear(b)
	}
	if got := u.All(); !slices.Equal(got, patterns) {
		t.Errorf("All: %q", got)
	}
	for path, want := range map[string]string{
		"/a/b": `2 [] <nil>`, "/a/c": `1 [{"id" "c"}] <nil>`, "/a/c/d": `3 [{"all" "a/c/d"}] <nil>`,
		"/long-segment/x/y/z": `4 [{"long-token" "x"} {"long-rest" "y/z"}] <nil>`,
	} {
		s, b := written(path)
		id, l, err := u.Find(s)
		clear(b)
		if got := fmt.Sprintf("%d %q %v", id, l, err); got != want {
			t.Errorf("Find(%q): %s, not %s", path, got, want)
		}
	}
	s, b := written("/:x/*y")
	path, c := written("/p/q/r")
	_, l, _ := Fits(s, path)
	if string(b) != "/:x/*y" || string(c) != "/p/q/r" {
		t.Errorf("%q, %q", b, c)
	}
	clear(b)
	clear(c)
	if !slices.Equal(l, fieldsOf("x", "p", "y", "q/r")) {
		t.Errorf("%q", l)
	}
}

// Rule 3: what was answered may be changed, its room too, without a change of what is kept or of another answer.
func TestListsAreNewMemory(t *testing.T) {
	u := New()
	patterns := []string{"/:a", "/:a/:b", "/:a/:b/:c", "/:a/:b/:c/*d", "/x/y/z"}
	for i, p := range patterns {
		if err := u.Add(p, i); err != nil {
			t.Fatal(err)
		}
		all, other := u.All(), u.All()
		whole := all[:cap(all)]
		for k := range whole {
			whole[k] = "spoilt"
		}
		if !slices.Equal(other, patterns[:i+1]) || !slices.Equal(u.All(), patterns[:i+1]) {
			t.Fatalf("%q, %q", other, u.All())
		}
	}
	for _, path := range []string{"/1", "/1/2", "/1/2/3", "/1/2/3/4", "/1/2/3/4/5"} {
		_, l, _ := u.Find(path)
		_, other, _ := u.Find(path)
		before := slices.Clone(l)
		for k := range l[:cap(l)] {
			l[:cap(l)][k] = api.Field{Name: "spoilt", Value: "spoilt"}
		}
		if _, again, _ := u.Find(path); !slices.Equal(other, before) || !slices.Equal(again, before) {
			t.Fatalf("%q, %q", other, again)
		}
	}
}

// Rule 4: what is answered hangs on what was laid in and is asked alone, in whatever order, also at the same time; two tries know nothing of each other.
func TestInTurns(t *testing.T) {
	m := newMaker(4)
	u, other := New(), New()
	for i := range 200 {
		u.Add(m.pattern(), i)
		other.Add(m.pattern(), -i)
	}
	var paths, want, wantOther []string
	for range 300 {
		paths = append(paths, m.path())
	}
	for _, path := range paths {
		want = append(want, found(u, path))
		wantOther = append(wantOther, found(other, path))
	}
	all := u.All()
	done := make(chan bool)
	for worker := range 8 {
		go func() {
			defer func() { done <- true }()
			for turn := range 600 {
				i := (turn*7 + worker) % len(paths)
				if got, second := found(u, paths[i]), found(other, paths[i]); got != want[i] || second != wantOther[i] {
					t.Errorf("Find(%q): %s, %s, not %s, %s", paths[i], got, second, want[i], wantOther[i])
				}
			}
			if !slices.Equal(u.All(), all) || u.Len() != len(all) {
				t.Error("the patterns are others")
			}
		}()
	}
	for range 8 {
		<-done
	}
}
