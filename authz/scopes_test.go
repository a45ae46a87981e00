package authz

import (
	"slices"
	"strconv"
	"strings"
	"testing"
	"turnstile/api"
)

// AZ3: who is counted.
func TestSubject(t *testing.T) {
	for _, subject := range []string{"me", " ", "\x00", "7", "é", "\xff", "a b", strings.Repeat("s", 10000)} {
		for _, client := range []string{"", "7", "me", "\x00"} {
			if got := Subject(api.Claims{Subject: subject}, client); got != subject {
				t.Errorf("Subject of %s, %q: %s", short(subject), client, short(got))
			}
		}
	}
	for _, client := range []string{"", "7", "63", " ", "\x00", "\xff", strings.Repeat("c", 10000)} {
		for _, c := range []api.Claims{{}, {Issuer: "i", Audience: []string{"a"}, Scopes: []string{"r"}, NotBefore: 1, Exp: 2}, {NotBefore: -1, Exp: -1}} {
			if got := Subject(c, client); got != client {
				t.Errorf("Subject of %v, %s: %s", c, short(client), short(got))
			}
		}
	}
}

// AZ3: which scopes are missing, each once, in the order in which they are wanted.
func TestScopes(t *testing.T) {
	l := func(texts ...string) []string { return texts }
	checkScopes(t, nil, nil)
	checkScopes(t, []string{}, []string{})
	checkScopes(t, nil, l("a", "b"))
	checkScopes(t, l("a"), l("a"))
	checkScopes(t, l("a"), l("a", "a", "b"))
	checkScopes(t, l("a"), nil, "a")
	checkScopes(t, l("a", "b", "a"), l("b"), "a")
	checkScopes(t, l("a", "a", "a"), nil, "a")
	checkScopes(t, l("a", "a", "a"), l("b"), "a")
	checkScopes(t, l("c", "a", "b", "a", "c"), nil, "c", "a", "b")
	checkScopes(t, l("z", "y", "x"), l("y", "z"), "x")
	checkScopes(t, l("b", "a"), l("c", "d"), "b", "a")
	checkScopes(t, l("", "a"), nil, "", "a")
	checkScopes(t, l("", "a", ""), l("a"), "")
	checkScopes(t, l("", "a"), l(""), "a")
	checkScopes(t, l("A", "a", "é", "e\u0301", "a ", " a"), l("a"), "A", "é", "e\u0301", "a ", " a")
	checkScopes(t, l("a\x00", "\xff", "\xfe", "a"), l("\xff", "a"), "a\x00", "\xfe")
	checkScopes(t, l("ab"), l("a", "b", "abc", "a b"), "ab")
	checkScopes(t, l("a b"), l("a", "b"), "a b")
	checkScopes(t, l("r", "w")[:1], l("x", "r")[:1], "r")
}

// AZ3: every two short lists of three texts.
func TestEveryScopes(t *testing.T) {
	lists := [][]string{nil}
	for from, n := 0, 0; n < 4; n++ {
		end := len(lists)
		for ; from < end; from++ {
			for _, s := range []string{"a", "b", ""} {
				lists = append(lists, append(slices.Clone(lists[from]), s))
			}
		}
	}
	if len(lists) != 1+3+9+27+81 {
		t.Fatal(len(lists))
	}
	for _, want := range lists {
		for _, have := range lists {
			checkScopes(t, want, have, ofScopes(want, have)...)
		}
	}
}

// AZ3: many scopes, of which every other one is there.
func TestManyScopes(t *testing.T) {
	var want, have, missing []string
	for i := range 200000 {
		s := strconv.Itoa(i % 150000)
		want = append(want, s)
		if i%2 == 0 {
			have = append(have, s)
		} else if i < 150000 {
			missing = append(missing, s)
		}
	}
	slices.Reverse(have)
	if got := Scopes(want, have); !slices.Equal(got, missing) {
		t.Errorf("%d are missing, not %d", len(got), len(missing))
	}
}
