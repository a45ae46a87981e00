package jwt

import (
	"math"
	"testing"
	"turnstile/api"
)

// always is claims that are right at the times 0 to 99.
func always() api.Claims { return api.Claims{NotBefore: -1, Exp: 100} }

// JW2: from which tick on and up to which one claims are right, with every leeway, at all small numbers.
func TestCheckTimes(t *testing.T) {
	ends := map[error]int{}
	for exp := -1; exp < 8; exp++ {
		for from := -1; from < 8; from++ {
			for leeway := range 5 {
				for now := range 12 {
					c, a := api.Claims{NotBefore: from, Exp: exp}, api.Auth{Leeway: leeway}
					want := error(api.ErrTime)
					if exp >= 0 && now < exp+leeway && (from < 0 || now+leeway >= from) {
						want = nil
					}
					ends[want]++
					checkCheck(t, c, a, now, want)
				}
			}
		}
	}
	if ends[nil] < 500 || ends[api.ErrTime] < 500 {
		t.Errorf("ends: %v", ends)
	}
}

// JW2: the times at their ends, and at the ends of all ticks.
func TestCheckTimesKnown(t *testing.T) {
	for _, c := range []struct {
		from, exp, leeway, now int
		want                   error
	}{
		{-1, 100, 0, 99, nil}, {-1, 100, 0, 100, api.ErrTime}, {-1, 100, 0, 101, api.ErrTime}, {-1, 100, 5, 104, nil}, {-1, 100, 5, 105, api.ErrTime},
		{50, 100, 0, 49, api.ErrTime}, {50, 100, 0, 50, nil}, {50, 100, 5, 44, api.ErrTime}, {50, 100, 5, 45, nil}, {0, 100, 0, 0, nil},
		{-1, 0, 0, 0, api.ErrTime}, {-1, 0, 1, 0, nil}, {-1, 1, 0, 0, nil}, {-1, -1, 0, 0, api.ErrTime}, {-1, -1, lastTick, 0, api.ErrTime}, {0, -1, 5, 3, api.ErrTime},
		{-1, lastTick, 0, lastTick, api.ErrTime}, {-1, lastTick, 0, lastTick - 1, nil}, {-1, lastTick, 1, lastTick, nil}, {lastTick, lastTick, lastTick, 0, nil}, {lastTick, lastTick, lastTick - 1, 0, api.ErrTime},
		{lastTick, lastTick, lastTick, lastTick, nil}, {-1, 0, lastTick, lastTick, api.ErrTime}, {-1, 0, lastTick, lastTick - 1, nil}, {9, 5, 0, 7, api.ErrTime}, {9, 5, 3, 7, nil}, {9, 5, 2, 7, api.ErrTime}, {9, 5, 2, 6, api.ErrTime},
	} {
		checkCheck(t, api.Claims{NotBefore: c.from, Exp: c.exp}, api.Auth{Leeway: c.leeway}, c.now, c.want)
	}
}

// JW2: what can't be a tick is told ahead of all else.
func TestCheckArg(t *testing.T) {
	for _, n := range []int{math.MinInt, math.MinInt + 1, -lastTick, -2, -1, lastTick + 1, 2 * lastTick, math.MaxInt - lastTick, math.MaxInt - 1, math.MaxInt} {
		for _, c := range []api.Claims{always(), nothing, {Subject: "s", Issuer: "j", Exp: 5}} {
			for _, a := range []api.Auth{{}, {Issuer: "i", Audience: "a", Scopes: []string{"r"}}} {
				checkCheck(t, c, a, n, api.ErrArg)
				a.Leeway = n
				checkCheck(t, c, a, 1, api.ErrArg)
				checkCheck(t, c, a, n, api.ErrArg)
				a.Leeway = 0
				if n == -1 {
					continue
				}
				d := c
				d.NotBefore = n
				checkCheck(t, d, a, 1, api.ErrArg)
				d = c
				d.Exp = n
				checkCheck(t, d, a, 1, api.ErrArg)
				a.Leeway = lastTick
				checkCheck(t, d, a, lastTick, api.ErrArg)
			}
		}
	}
}

// JW2: an issuer that is asked for is the claims' one, byte by byte; one that is not asked for may be any.
func TestCheckIssuer(t *testing.T) {
	for _, want := range []string{"", "i", "I", "i ", "https://i/", "é", "e\u0301", "\x00", "i\x00"} {
		for _, has := range []string{"", "i", "I", "i ", " i", "https://i/", "https://i", "é", "e\u0301", "\x00", "i\x00"} {
			c := always()
			c.Issuer = has
			var end error
			if want != "" && want != has {
				end = api.ErrIssuer
			}
			checkCheck(t, c, api.Auth{Issuer: want}, 5, end)
		}
	}
}

// JW2: an audience that is asked for is one of the claims', wherever it stands.
func TestCheckAudience(t *testing.T) {
	for _, l := range [][]string{nil, {}, {""}, {"a"}, {"A"}, {"a", "b"}, {"b", "a"}, {"b", "c", "a"}, {"b", "", "c"}, {"a", "a"}, {"a b"}, {"a,b"}, {" a"}, {"aa"}, {"b", "A", "a ", "b"}} {
		for _, want := range []string{"", "a", "b", "a b", "A", "x"} {
			has := false
			for _, s := range l {
				has = has || s == want
			}
			var end error
			if want != "" && !has {
				end = api.ErrAudience
			}
			c := always()
			c.Audience = l
			checkCheck(t, c, api.Auth{Audience: want}, 5, end)
		}
	}
}

// JW2: each scope that is asked for is one of the claims', in any order.
func TestCheckScopes(t *testing.T) {
	for _, want := range [][]string{nil, {}, {"r"}, {"w"}, {"r", "w"}, {"w", "r"}, {"r", "r"}, {"R"}, {""}, {"r", ""}, {"r w"}, {"r", "w", "x"}} {
		for _, has := range [][]string{nil, {}, {"r"}, {"w"}, {"r", "w"}, {"w", "r"}, {"w", "w"}, {"R", "W"}, {""}, {"r", ""}, {"r w"}, {"x", "w", "y", "r"}, {"rw"}} {
			there := map[string]int{}
			for _, s := range has {
				there[s]++
			}
			var end error
			for _, s := range want {
				if there[s] == 0 {
					end = api.ErrScope
				}
			}
			c := always()
			c.Scopes = has
			checkCheck(t, c, api.Auth{Scopes: want}, 5, end)
		}
	}
}

// JW2: of all that is wrong at once the first one is told, in the order ErrArg, ErrTime, ErrIssuer, ErrAudience, ErrScope; On is not looked at, nor the subject.
func TestCheckOrder(t *testing.T) {
	for set := range 1 << 5 {
		for _, on := range []bool{false, true} {
			c := api.Claims{Issuer: "i", Audience: []string{"a"}, Scopes: []string{"r"}, NotBefore: 1, Exp: 100}
			a, now, want := api.Auth{On: on, Issuer: "i", Audience: "a", Scopes: []string{"r"}}, 5, error(nil)
			if set&16 != 0 {
				c.Scopes, want = []string{"w"}, api.ErrScope
			}
			if set&8 != 0 {
				c.Audience, want = []string{"b"}, api.ErrAudience
			}
			if set&4 != 0 {
				c.Issuer, want = "j", api.ErrIssuer
			}
			if set&2 != 0 {
				c.Exp, want = 5, api.ErrTime
			}
			if set&1 != 0 {
				a.Leeway, want = -1, api.ErrArg
			}
			checkCheck(t, c, a, now, want)
			c.Subject = "s"
			checkCheck(t, c, a, now, want)
		}
	}
}

// JW2: any claims and wishes, against the chapter's words.
func TestAnyCheck(t *testing.T) {
	m := newMaker(3)
	ends := map[error]int{}
	for range 40000 {
		c, a, now := m.claims(), m.auth(), m.tick()
		want := ofCheck(c, a, now)
		ends[want]++
		checkCheck(t, c, a, now, want)
	}
	for _, end := range []error{nil, api.ErrArg, api.ErrTime, api.ErrIssuer, api.ErrAudience, api.ErrScope} {
		if ends[end] < 300 {
			t.Errorf("%v only %d times", end, ends[end])
		}
	}
}
