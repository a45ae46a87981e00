package host

import (
	"fmt"
	"slices"
	"strings"
	"testing"
	"turnstile/api"
	"unsafe"
)

// HT1: each short pattern against each short host.
func TestEachFit(t *testing.T) {
	patterns, hosts := those(texts("*.aB", 5), isPattern), those(texts(".AbB", 5), isHost)
	fitting := 0
	for _, p := range patterns {
		for _, h := range hosts {
			want := ofFit(p, h)
			if fits, err := Fits(p, h); fits != want || err != nil {
				t.Fatalf("Fits(%q, %q): %v, %v, not %v", p, h, fits, err, want)
			}
			if want {
				fitting++
			}
		}
	}
	if len(patterns) < 150 || len(hosts) < 500 || fitting < 2000 {
		t.Errorf("%d patterns, %d hosts and %d fits", len(patterns), len(hosts), fitting)
	}
}

// beats is Beats of what is to have an answer.
func beats(t *testing.T, a, b, host string) bool {
	t.Helper()
	got, err := Beats(a, b, host)
	if err != nil {
		t.Fatalf("Beats(%q, %q, %q): %v", a, b, host, err)
	}
	return got
}

// HT4: of two patterns that fit one host, and that can both be added, just one goes ahead; one that goes ahead of another goes ahead of all that are behind that one.
func TestJustOneGoesAhead(t *testing.T) {
	patterns := those(texts("*.aAb", 5), isPattern)
	pairs, triples := 0, 0
	for _, h := range []string{"a", "b", "A", "aa", "a.a", "a.b", "B.a", "a.a.a", "a.b.A", "b.b.a", "a.b.b", "aa.b"} {
		l := those(patterns, func(p string) bool { return ofFit(p, h) })
		for _, a := range l {
			for _, b := range l {
				one, other := beats(t, a, b, h), beats(t, b, a, h)
				u := New()
				together := u.Add(a, 1) == nil && u.Add(b, 2) == nil
				if one && other || together != (one || other) || one != ofAhead(a, b) {
					t.Fatalf("%q and %q at %q: %v and %v, added together: %v", a, b, h, one, other, together)
				}
				if id, err := u.Find(h); err != nil || id == 1 != (one || !together) {
					t.Fatalf("%q (1) and %q (2) at %q: %d, %v", a, b, h, id, err)
				}
				pairs++
				for _, c := range l {
					if one && beats(t, b, c, h) {
						triples++
						if !beats(t, a, c, h) {
							t.Fatalf("%q, %q, %q at %q", a, b, c, h)
						}
					}
				}
			}
		}
	}
	if pairs < 1000 || triples < 2000 {
		t.Errorf("only %d pairs and %d of three", pairs, triples)
	}
}

// orders is every order of some patterns.
func orders(l []string) [][]string {
	if len(l) == 0 {
		return [][]string{nil}
	}
	var all [][]string
	for i := range l {
		for _, o := range orders(slices.Concat(l[:i], l[i+1:])) {
			all = append(all, append([]string{l[i]}, o...))
		}
	}
	return all
}

// found is what Find answers, as one text.
func found(u *Table, host string) string {
	id, err := u.Find(host)
	return fmt.Sprint(id, err)
}

// HT4: what is found does not hang on the order in which patterns were added.
func TestEveryOrder(t *testing.T) {
	hosts := append(those(texts(".aBc", 5), isHost), "", "*", "a..b", "a.", "x.b.c", "a.x.c", "a.b.x", "x.x.x", "a.b.c.d", "x.b.c.d")
	for _, set := range [][]string{
		{"*.b.c", "a.*.c", ""},
		{"", "*", "a", "*.*", "a.*", "*.a"},
		{"a.b", "*.b", "a.*", "*.*", ""},
		{"a.b.c", "*.b.c", "a.*.c", "a.b.*", "*.*.c", "*.b.*"},
		{"*.*.*", "a.*.*", "*.b.*", "*.*.c", ""},
		{"*.*.c.d", "a.b.*.d", "*.b.c.d", "*.b", "*"},
	} {
		ids := map[string]int{}
		for i, p := range set {
			ids[p] = 10 + i
		}
		var want []string
		for _, order := range orders(set) {
			u := New()
			for _, p := range order {
				if err := u.Add(p, ids[p]); err != nil {
					t.Fatalf("Add(%q): %v", p, err)
				}
			}
			if got := u.All(); !slices.Equal(got, order) {
				t.Fatalf("All: %q, not %q", got, order)
			}
			var got []string
			for _, h := range hosts {
				got = append(got, found(u, h))
			}
			if want == nil {
				want = got
			}
			if !slices.Equal(got, want) {
				t.Fatalf("in the order %q: %q, not %q", order, got, want)
			}
		}
	}
}

// HT4: what Find tells fits, and no other one that fits beats it, by what Fits and Beats themselves say.
func TestFoundIsAhead(t *testing.T) {
	m := newMaker(5)
	several := 0
	for range 1500 {
		u := New()
		for range 40 {
			u.Add(m.pattern(), u.Len())
		}
		all := u.All()
		for range 15 {
			h := m.host()
			id, err := u.Find(h)
			fitting := 0
			for i, p := range all {
				fits, _ := Fits(p, h)
				if !fits {
					continue
				}
				fitting++
				if err != nil {
					t.Fatalf("Find(%q) of %q: %v, though %q fits", h, all, err, p)
				}
				if i != id && (beats(t, p, all[id], h) || !beats(t, all[id], p, h)) {
					t.Fatalf("Find(%q) of %q: %q, which does not go ahead of %q", h, all, all[id], p)
				}
			}
			if err == nil {
				if fits, _ := Fits(all[id], h); !fits {
					t.Fatalf("Find(%q) of %q: %q, which does not fit", h, all, all[id])
				}
			}
			if fitting > 1 {
				several++
			}
		}
	}
	if several < 5000 {
		t.Errorf("only %d times more than one fits", several)
	}
}

// HT2, HT4: any patterns added, spoilt or not, and any hosts, against the chapter's words; then in another order.
func TestAnyTable(t *testing.T) {
	m := newMaker(1)
	ends := map[error]int{}
	for range 600 {
		b := newBoth(t)
		for range m.Intn(160) {
			p := m.spoilt(m.pattern())
			err := b.table.Add(p, len(b.row))
			if want := b.row.add(p, len(b.row)); err != want {
				t.Fatalf("Add(%q) to %q: %v, not %v", p, b.row.all(), err, want)
			}
			ends[err]++
			if m.Intn(8) == 0 {
				b.state()
			}
		}
		var other Table
		for _, i := range m.Perm(len(b.row)) {
			if err := other.Add(m.sizes(b.row[i].pattern), b.row[i].id); err != nil {
				t.Fatalf("Add(%q): %v", b.row[i].pattern, err)
			}
		}
		for range 30 {
			h := m.spoilt(m.host())
			b.same(h)
			if got, want := found(&other, h), found(b.table, h); got != want {
				t.Fatalf("Find(%q) in another order: %s, not %s", h, got, want)
			}
			_, err := b.table.Find(h)
			ends[err]++
		}
		if t.Failed() {
			t.Fatalf("patterns %q", b.row.all())
		}
	}
	if len(ends) != 5 || ends[nil] < 10000 || ends[api.ErrForm] < 3000 || ends[api.ErrTwice] < 3000 || ends[api.ErrNone] < 300 || ends[api.ErrFull] < 300 {
		t.Errorf("errors %v", ends)
	}
}

// HT1: any patterns, spoilt or not, and any hosts.
func TestAnyPatterns(t *testing.T) {
	m := newMaker(2)
	ends := map[string]int{}
	for range 60000 {
		a, b, h := m.spoilt(m.pattern()), m.spoilt(m.pattern()), m.spoilt(m.host())
		if isHost(h) && m.Intn(2) == 0 {
			a, b = m.starred(h), m.starred(h)
			if m.Intn(10) == 0 {
				b = ""
			}
		}
		if m.Intn(2) == 0 {
			a, b = b, a
		}
		checkPattern(t, a, isPattern(a))
		fits, err := ofFits(a, h)
		checkFits(t, a, h, fits, err)
		ahead, err := ofBeats(a, b, h)
		checkBeats(t, a, b, h, ahead, err)
		ends[fmt.Sprint(ahead, err)]++
		want, _ := ofCanon(h)
		checkHost(t, h, want)
		host, port, _ := ofSplit(h + a)
		checkSplit(t, h+a, host, port)
		if t.Failed() {
			t.FailNow()
		}
	}
	if len(ends) != 4 || ends["true <nil>"] < 3000 || ends["false <nil>"] < 3000 {
		t.Errorf("answers %v", ends)
	}
}

// Rule 1: nothing panics, whatever bytes it is given.
func TestAnyBytes(t *testing.T) {
	m := newMaker(3)
	var u *both
	for i := range 50000 {
		if i%300 == 0 {
			u = newBoth(t)
		}
		b := make([]byte, m.Intn(12))
		for i := range b {
			if b[i] = byte(m.Intn(256)); m.Intn(6) != 0 {
				b[i] = "a.*B:0"[m.Intn(6)]
			}
		}
		s, h := string(b), m.host()
		want, _ := ofCanon(s)
		checkHost(t, s, want)
		checkPattern(t, s, isPattern(s))
		fits, err := ofFits(s, h)
		checkFits(t, s, h, fits, err)
		ahead, err := ofBeats(s, h, h)
		checkBeats(t, s, h, h, ahead, err)
		host, port, _ := ofSplit(s)
		checkSplit(t, s, host, port)
		added := u.row.add(s, i)
		if err := u.table.Add(s, i); err != added {
			t.Fatalf("Add(%q): %v, not %v", s, err, added)
		}
		id, wantErr := u.row.find(s)
		if got, err := u.table.Find(s); got != id || err != wantErr {
			t.Fatalf("Find(%q): %d, %v, not %d, %v", s, got, err, id, wantErr)
		}
	}
}

// within tells whether a text stands in the memory of another.
func within(part, whole string) bool {
	if part == "" || whole == "" {
		return false
	}
	from := uintptr(unsafe.Pointer(unsafe.StringData(whole)))
	at := uintptr(unsafe.Pointer(unsafe.StringData(part)))
	return at >= from && at < from+uintptr(len(whole))
}

// Rule 3: no text that is answered is a piece of one that was handed in, or of one that was answered ahead, small letters or not.
func TestTextsAreNewMemory(t *testing.T) {
	for _, pattern := range []string{"first.*.third", "First.*.THIRD", "plain-label", "*.label", "long.host.with.labels"} {
		pattern, host := strings.Clone(pattern), strings.Clone(strings.ReplaceAll(pattern, "*", "second"))
		authority := host + ":80"
		u := New()
		if err := u.Add(pattern, 1); err != nil {
			t.Fatal(err)
		}
		given := []string{pattern, host, authority}
		hold := func(l ...string) {
			for _, s := range l {
				for _, g := range given {
					if within(s, g) || within(g, s) {
						t.Errorf("%q stands in the memory of %q", s, g)
					}
				}
				given = append(given, s)
			}
		}
		for range 3 {
			canon, err := Canon(host)
			name, _, nameErr := Split(authority)
			alone, _, aloneErr := Split(host)
			if err != nil || nameErr != nil || aloneErr != nil {
				t.Fatal(err, nameErr, aloneErr)
			}
			hold(canon, name, alone)
			hold(u.All()...)
		}
	}
}

// written is a text whose bytes may be written over.
func written(s string) (string, []byte) {
	b := []byte(s)
	return unsafe.String(unsafe.SliceData(b), len(b)), b
}

// Rule 3: what was handed in is not changed and not kept: a table stays as it was when the memory of its patterns and hosts is written over.
func TestNothingHandedInIsKept(t *testing.T) {
	u := New()
	patterns := []string{"*.b.c", "a.*.c", "", "plain", "A.Great.One"}
	for i, p := range patterns {
		for _, want := range []error{nil, api.ErrTwice} {
			s, b := written(p)
			if err := u.Add(s, i+1); err != want {
				t.Fatal(err)
			}
			if string(b) != p {
				t.Fatalf("%q was changed to %q", p, b)
			}
			clear(b)
		}
	}
	if got := u.All(); !slices.Equal(got, []string{"*.b.c", "a.*.c", "", "plain", "a.great.one"}) {
		t.Errorf("All: %q", got)
	}
	for host, want := range map[string]int{"A.b.c": 1, "a.x.c": 2, "b.c": 3, "Plain": 4, "a.great.ONE": 5, "a.great.two": 3} {
		s, b := written(host)
		id, err := u.Find(s)
		if id != want || err != nil || string(b) != host {
			t.Errorf("Find(%q): %d, %v, of %q", host, id, err, b)
		}
		clear(b)
	}
	s, b := written("Some.Host")
	canon, _ := Canon(s)
	name, _, _ := Split(s)
	if string(b) != "Some.Host" {
		t.Errorf("%q", b)
	}
	clear(b)
	s, b = written("other.host:80")
	other, _, _ := Split(s)
	clear(b)
	if canon != "some.host" || name != "some.host" || other != "other.host" {
		t.Errorf("%q, %q, %q", canon, name, other)
	}
}

// Rule 3: what was answered may be changed, its room too, without a change of what is kept or of another answer.
func TestListsAreNewMemory(t *testing.T) {
	u := New()
	patterns := []string{"a", "*.a", "", "*.*.a", "b.*", "c"}
	for i, p := range patterns {
		if err := u.Add(p, i); err != nil {
			t.Fatal(err)
		}
		all, other := u.All(), u.All()
		whole := all[:cap(all)]
		for k := range whole {
			whole[k] = "spoilt"
		}
		if !slices.Equal(other, patterns[:i+1]) || !slices.Equal(u.All(), patterns[:i+1]) {
			t.Fatalf("%q, %q", other, u.All())
		}
	}
}

// Rule 4: what is answered hangs on what was added and is asked alone, in whatever order, also at the same time; two tables know nothing of each other.
func TestInTurns(t *testing.T) {
	m := newMaker(4)
	u, other := New(), New()
	for i := range 200 {
		u.Add(m.pattern(), i)
		other.Add(m.pattern(), -i)
	}
	var hosts, want, wantOther []string
	for range 300 {
		hosts = append(hosts, m.host())
	}
	for _, h := range hosts {
		want = append(want, found(u, h))
		wantOther = append(wantOther, found(other, h))
	}
	all := u.All()
	done := make(chan bool)
	for worker := range 8 {
		go func() {
			defer func() { done <- true }()
			for turn := range 600 {
				i := (turn*7 + worker) % len(hosts)
				if got, second := found(u, hosts[i]), found(other, hosts[i]); got != want[i] || second != wantOther[i] {
					t.Errorf("Find(%q): %s, %s, not %s, %s", hosts[i], got, second, want[i], wantOther[i])
				}
			}
			if !slices.Equal(u.All(), all) || u.Len() != len(all) {
				t.Error("the patterns are others")
			}
		}()
	}
	for range 8 {
		<-done
	}
}
