package host

import (
	"fmt"
	"math"
	"slices"
	"strings"
	"testing"
	"turnstile/api"
)

// HT2: the chapter's examples.
func TestExamples(t *testing.T) {
	b := of(t, "*.b.c", "a.*.c", "")
	b.find("A.b.c", 1, nil)
	b.find("a.x.c", 2, nil)
	b.find("b.c", 3, nil)
	if got := b.table.All(); !slices.Equal(got, []string{"*.b.c", "a.*.c", ""}) || b.table.Len() != 3 {
		t.Errorf("All: %q, Len: %d", got, b.table.Len())
	}
}

// HT2: a table without patterns, and with one.
func TestFew(t *testing.T) {
	b := newBoth(t)
	if b.table.Len() != 0 || len(b.table.All()) != 0 {
		t.Errorf("Len: %d, All: %q", b.table.Len(), b.table.All())
	}
	for _, h := range []string{"a", "A", "a.b", "0", sized(253)} {
		b.find(h, 0, api.ErrNone)
	}
	for _, h := range wrongHosts {
		b.find(h, 0, api.ErrForm)
	}
	b.add("*.B.c", 7, nil)
	b.find("a.b.c", 7, nil)
	b.find("A.B.C", 7, nil)
	for _, h := range []string{"b.c", "a.b", "a.a.b.c", "a.b.d", "a.c.c", "c"} {
		b.find(h, 0, api.ErrNone)
	}
	for _, h := range append(wrongHosts, "*.b.c", "*.B.c") {
		b.find(h, 0, api.ErrForm)
	}
	if New() == New() {
		t.Error("two tables are one")
	}
	newBoth(t).find("a.b.c", 0, api.ErrNone)
}

// HT2: the empty pattern alone fits each host, and nothing that is none.
func TestEmptyPattern(t *testing.T) {
	b := of(t, "")
	for _, h := range []string{"a", "A.b", "0", "-", sized(253), dotted("a", 127)} {
		b.find(h, 1, nil)
	}
	for _, h := range wrongHosts {
		b.find(h, 0, api.ErrForm)
	}
	b.add("", 2, api.ErrTwice)
	b.find("a", 1, nil)
	b.add("*", 3, nil)
	b.find("a", 3, nil)
	b.find("a.b", 1, nil)
	b.add("*.*", 4, nil)
	b.find("a.b", 4, nil)
	b.find("a.b.c", 1, nil)
	b.add("", 5, api.ErrTwice)
	if got := b.table.All(); !slices.Equal(got, []string{"", "*", "*.*"}) {
		t.Errorf("All: %q", got)
	}
}

// HT2: a pattern that is there but for the size of letters is refused, and what is there stays.
func TestTwice(t *testing.T) {
	for _, c := range [][]string{
		{"", ""}, {"*", "*"}, {"a", "a", "A"}, {"Ab", "ab", "aB", "AB", "Ab"}, {"*.b", "*.b", "*.B"}, {"A.*", "a.*", "A.*"}, {"a.*.c", "A.*.C", "a.*.C"}, {"*.*", "*.*"}, {"a.b.c", "A.B.C", "a.B.c"},
		{sized(253), strings.ToUpper(sized(253))}, {dotted("*", 127), dotted("*", 127)}, {"*." + dotted("a", 126), "*." + dotted("A", 126)},
	} {
		b := of(t, c[0], "*.other")
		for i, p := range c[1:] {
			b.add(p, 100+i, api.ErrTwice)
			b.add("*.OTHER", 200+i, api.ErrTwice)
		}
		b.same(strings.ReplaceAll(c[0], "*", "x"))
		b.find("a.other", 2, nil)
		for _, h := range []string{"a", "b", "a.b", "a.b.c", "a.x.c", "none.x"} {
			b.same(h)
		}
	}
}

// HT2: what parts in a label, in a star or in how many there are is another pattern.
func TestNotTwice(t *testing.T) {
	b := of(t, "", "*", "*.*", "*.*.*", "a", "b", "aa", "a.a", "a.aa", "aa.a", "a.*", "*.a", "a.b", "b.a", "*.b", "a.*.*", "*.a.*", "*.*.a", "a.b.*", "a.*.b", "*.a.b", "b.a.*", "a.b.a", "ab.a", "a-b", "a_b", "0", "00", "0.0", "a.a.a", "-", "--", "_", "a.a.*", "*.a.a", "a.*.a")
	for _, p := range b.table.All() {
		b.add(p, 1, api.ErrTwice)
		b.add(strings.ToUpper(p), 1, api.ErrTwice)
	}
	for _, h := range append(those(texts("ab.", 5), isHost), "0", "00", "0.0", "a-b", "a_b", "-", "--", "_", "___", "a.a.c", "c.c.c.c") {
		b.same(h)
	}
}

// HT2: labels that would be the same text without their dots, or without their stars, are others.
func TestNearlyTheSame(t *testing.T) {
	b := of(t, "a.*.b", "*.a.b", "a.b.*", "a.b", "ab", "*.ab", "ab.*")
	b.find("a.x.b", 1, nil)
	b.find("x.a.b", 2, nil)
	b.find("a.b.x", 3, nil)
	b.find("a.b", 4, nil)
	b.find("ab", 5, nil)
	b.find("x.ab", 6, nil)
	b.find("ab.x", 7, nil)
	b.find("a.a.b", 2, nil)
	b.find("a.b.b", 1, nil)
	for _, h := range []string{"a", "b", "b.a", "b.x.a", "x.b.a", "b.a.x", "ba", "x.a.x.b"} {
		b.find(h, 0, api.ErrNone)
	}
}

// HT2: a refused pattern leaves no trace, be it none or there already.
func TestRefused(t *testing.T) {
	b := newBoth(t)
	for _, p := range wrongPatterns {
		b.add(p, 5, api.ErrForm)
	}
	for _, h := range []string{"a", "a.b", "a.b.c", sized(253)} {
		b.find(h, 0, api.ErrNone)
	}
	b.add("*.y", 1, nil)
	b.add("a.b.c", 2, nil)
	for i, p := range wrongPatterns {
		b.add(p, 5+i, api.ErrForm)
		b.add("*.Y", 50+i, api.ErrTwice)
		b.add("A.b.c", 70+i, api.ErrTwice)
		b.find("x.y", 1, nil)
		b.find("a.b.c", 2, nil)
		b.find("a.b", 0, api.ErrNone)
	}
}

// HT2: an id is any, and several patterns may have one.
func TestIds(t *testing.T) {
	b := newBoth(t)
	ids := []int{0, -1, 1, math.MaxInt, math.MinInt, 1 << 40, 0, -1}
	for i, id := range ids {
		b.add(fmt.Sprintf("p%d", i), id, nil)
		b.add(fmt.Sprintf("*.q%d", i), id, nil)
		b.add(fmt.Sprintf("*.Q%d", i), 9, api.ErrTwice)
		b.add(fmt.Sprintf("r%d.*.x", i), id, nil)
	}
	for i, id := range ids {
		b.find(fmt.Sprintf("P%d", i), id, nil)
		b.find(fmt.Sprintf("a.q%d", i), id, nil)
		b.find(fmt.Sprintf("r%d.r.X", i), id, nil)
	}
	b.find("none", 0, api.ErrNone)
}

// filled is a table with so many patterns.
func filled(t *testing.T, n int) *both {
	t.Helper()
	b := newBoth(t)
	for i := range n {
		b.add(fmt.Sprintf("h%d.*", i), i, nil)
	}
	return b
}

// HT2: just MaxRoutes patterns, and not one more.
func TestFull(t *testing.T) {
	if api.MaxRoutes != maxRoutes {
		t.Fatal(api.MaxRoutes)
	}
	b := filled(t, 63)
	b.add("last", 100, nil)
	if b.table.Len() != 64 {
		t.Fatal(b.table.Len())
	}
	for range 2 {
		for i, p := range []string{"more", "*", "", "*.*", "h64.*", "*.h0", "a.b.c"} {
			b.add(p, 200+i, api.ErrFull)
		}
		// One that is there is told ahead of a full table, and what is none ahead of both.
		for _, p := range []string{"last", "LAST", "h0.*", "H63.*", "H62.*"} {
			want := api.ErrTwice
			if p == "H63.*" {
				want = api.ErrFull
			}
			b.add(p, 300, want)
		}
		for _, p := range wrongPatterns {
			b.add(p, 400, api.ErrForm)
		}
		b.find("last", 100, nil)
		b.find("h0.x", 0, nil)
		b.find("h62.x", 62, nil)
		for _, h := range []string{"more", "x", "x.y", "h63.x", "h64.x", "a.h0", "a.b.c"} {
			b.find(h, 0, api.ErrNone)
		}
	}
	b = of(t, "")
	for i := range 63 {
		b.add(dotted("*", 1+i), i, nil)
	}
	b.add(dotted("*", 64), 1, api.ErrFull)
	b.add("", 1, api.ErrTwice)
	b.find(dotted("a", 63), 62, nil)
	b.find(dotted("a", 64), 1, nil)
}

// HT2: a full table of patterns that all fit one host, in their order.
func TestAllFit(t *testing.T) {
	for _, down := range []bool{false, true} {
		b := newBoth(t)
		labels := strings.Split("a.b.c.d.e.f", ".")
		for n := range 64 {
			l := slices.Clone(labels)
			k := n
			if down {
				k = 63 - n
			}
			for i := range l {
				if k>>i&1 == 1 {
					l[i] = "*"
				}
			}
			b.add(strings.Join(l, "."), k, nil)
			b.same("a.b.c.d.e.f")
		}
		for n := range 64 {
			l := slices.Clone(labels)
			for i := range l {
				if n>>i&1 == 1 {
					l[i] = "x"
				}
			}
			b.find(strings.Join(l, "."), n, nil)
		}
		b.find("A.B.C.D.E.F", 0, nil)
		b.find("a.b.c.d.e", 0, api.ErrNone)
		b.find("a.b.c.d.e.f.g", 0, api.ErrNone)
	}
}

// HT2: where a pattern that would go ahead does not fit, another one does.
func TestOthersThatFit(t *testing.T) {
	b := of(t, "a.b.c", "*.b.c", "a.*.c", "a.b.*", "*.*.c", "*.b.*", "a.*.*", "*.*.*", "*.c", "*", "")
	b.find("a.b.c", 1, nil)
	b.find("x.b.c", 2, nil)
	b.find("a.x.c", 3, nil)
	b.find("a.b.x", 4, nil)
	b.find("x.x.c", 5, nil)
	b.find("x.b.x", 6, nil)
	b.find("a.x.x", 7, nil)
	b.find("x.x.x", 8, nil)
	b.find("x.c", 9, nil)
	b.find("c.x", 11, nil)
	b.find("c", 10, nil)
	b.find("a.b.c.d", 11, nil)
	b.find(dotted("c", 127), 11, nil)

	b = of(t, "a.*", "*.b")
	b.find("a.b", 2, nil)
	b.find("a.c", 1, nil)
	b.find("c.b", 2, nil)
	b.find("c.c", 0, api.ErrNone)
}

// HT2: patterns and hosts of as many labels and bytes as there can be.
func TestLongHosts(t *testing.T) {
	b := of(t, dotted("a", 127), dotted("*", 127), "*."+dotted("a", 126), dotted("a", 126)+".*", dotted("a", 63)+".*."+dotted("a", 63), sized(253))
	b.find(dotted("a", 127), 1, nil)
	b.find(dotted("A", 127), 1, nil)
	b.find(dotted("b", 127), 2, nil)
	b.find("b."+dotted("a", 126), 3, nil)
	b.find(dotted("a", 126)+".b", 4, nil)
	b.find(dotted("a", 63)+".b."+dotted("a", 63), 5, nil)
	b.find(dotted("a", 62)+".b."+dotted("a", 64), 2, nil)
	b.find(sized(253), 6, nil)
	b.find(sized(252), 0, api.ErrNone)
	b.find(dotted("a", 126), 0, api.ErrNone)
	b.find(dotted("a", 128), 0, api.ErrForm)
	b.find(sized(254), 0, api.ErrForm)
	b.find(strings.Repeat("a.", 1<<20), 0, api.ErrForm)
	b.add(strings.Repeat("a.", 1<<20)+"a", 1, api.ErrForm)
}

// HT2: what is there is told by Len and All in small letters, as it was added.
func TestLenAndAll(t *testing.T) {
	b := newBoth(t)
	patterns := []string{"b", "A", "*", "", "*.Zz", "C.*.d", "0", "a.B", "*.*", "-_"}
	want := []string{"b", "a", "*", "", "*.zz", "c.*.d", "0", "a.b", "*.*", "-_"}
	for i, p := range patterns {
		b.add(p, -i, nil)
		if got := b.table.All(); b.table.Len() != i+1 || !slices.Equal(got, want[:i+1]) {
			t.Errorf("Len: %d, All: %q", b.table.Len(), got)
		}
		b.add(p, 1, api.ErrTwice)
		b.same("a.b")
		b.same("none.none.none")
	}
}

// HT2: a nil table has no patterns and takes none.
func TestNilTable(t *testing.T) {
	var none *Table
	for range 2 {
		if n, l := none.Len(), none.All(); n != 0 || len(l) != 0 {
			t.Errorf("Len: %d, All: %q", n, l)
		}
		for _, h := range []string{"a", "A.b", sized(253)} {
			if id, err := none.Find(h); id != 0 || err != api.ErrNone {
				t.Errorf("Find(%q): %d, %v", h, id, err)
			}
		}
		for _, h := range wrongHosts {
			if id, err := none.Find(h); id != 0 || err != api.ErrForm {
				t.Errorf("Find(%q): %d, %v", h, id, err)
			}
		}
		for _, p := range []string{"", "*", "a", "*.B"} {
			if err := none.Add(p, 1); err != api.ErrFull {
				t.Errorf("Add(%q): %v", p, err)
			}
		}
		for _, p := range wrongPatterns {
			if err := none.Add(p, 1); err != api.ErrForm {
				t.Errorf("Add(%q): %v", p, err)
			}
		}
	}
	zero := new(Table)
	if _, err := zero.Find("a"); err != api.ErrNone || zero.Add("a", 1) != nil || zero.Len() != 1 {
		t.Error("a table that New did not make takes no pattern")
	}
}
