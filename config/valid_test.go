package config

import (
	"fmt"
	"math"
	"strings"
	"testing"
	"turnstile/api"
)

// checkChange asks where full is wrong with a change.
func checkChange(t *testing.T, place string, change func(c *api.Config)) {
	t.Helper()
	checkPlace(t, changed(full(), change), place)
}

// CF2: what may be.
func TestMayBe(t *testing.T) {
	checkPlace(t, full(), "")
	checkPlace(t, least(), "")
	checkPlace(t, api.Config{}, "pools")
	checkPlace(t, api.Config{Pools: least().Pools}, "routes")
	checkPlace(t, api.Config{Pools: least().Pools, Routes: least().Routes}, "maxhead")
	checkPlace(t, api.Config{Routes: least().Routes, MaxHead: 64, MaxConns: 1, Idle: 1, Header: 1}, "pools")
}

// CF2: each number at its least, at its greatest, one below and one above.
func TestNumbersAtTheirEnds(t *testing.T) {
	for _, n := range []struct {
		place     string
		low, high int
		at        func(c *api.Config) *int
	}{
		{"pools.1.backends.1.weight", 1, 256, func(c *api.Config) *int { return &c.Pools[1].Backends[1].Weight }},
		{"pools.1.policy", 1, 2, func(c *api.Config) *int { return &c.Pools[1].Policy }},
		{"pools.1.retries", 0, 8, func(c *api.Config) *int { return &c.Pools[1].Retries }},
		{"pools.1.timeout", 1, 1 << 20, func(c *api.Config) *int { return &c.Pools[1].Timeout }},
		{"pools.1.breaker.fails", 1, 1000, func(c *api.Config) *int { return &c.Pools[1].Breaker.Fails }},
		{"pools.1.breaker.open", 1, 1 << 20, func(c *api.Config) *int { return &c.Pools[1].Breaker.Open }},
		{"pools.1.probe.every", 15, 1 << 20, func(c *api.Config) *int { return &c.Pools[1].Probe.Every }},
		{"pools.1.probe.timeout", 1, 16, func(c *api.Config) *int { return &c.Pools[1].Probe.Timeout }},
		{"pools.1.probe.rise", 1, 100, func(c *api.Config) *int { return &c.Pools[1].Probe.Rise }},
		{"pools.1.probe.fall", 1, 100, func(c *api.Config) *int { return &c.Pools[1].Probe.Fall }},
		{"routes.1.auth.leeway", 0, 1 << 20, func(c *api.Config) *int { return &c.Routes[1].Auth.Leeway }},
		{"routes.1.limit.by", 1, 2, func(c *api.Config) *int { return &c.Routes[1].Limit.By }},
		{"routes.1.limit.rate", 1, 1 << 20, func(c *api.Config) *int { return &c.Routes[1].Limit.Rate }},
		{"routes.1.limit.per", 1, 1 << 20, func(c *api.Config) *int { return &c.Routes[1].Limit.Per }},
		{"routes.1.limit.burst", 1, 1 << 20, func(c *api.Config) *int { return &c.Routes[1].Limit.Burst }},
		{"maxhead", 64, 1 << 16, func(c *api.Config) *int { return &c.MaxHead }},
		{"maxbody", 0, 1 << 20, func(c *api.Config) *int { return &c.MaxBody }},
		{"maxconns", 1, 64, func(c *api.Config) *int { return &c.MaxConns }},
		{"idle", 1, 1 << 20, func(c *api.Config) *int { return &c.Idle }},
		{"header", 1, 1 << 20, func(c *api.Config) *int { return &c.Header }},
	} {
		for _, x := range []int{n.low, n.low + 1, n.high - 1, n.high} {
			checkChange(t, "", func(c *api.Config) { *n.at(c) = x })
		}
		below := n.place
		switch n.place {
		case "pools.1.breaker.fails": // of 0 it is never open
			below = "pools.1.breaker.open"
		case "pools.1.probe.every": // below its timeout
			below = "pools.1.probe.timeout"
		case "routes.1.limit.by": // of ByNone all others are noughts
			below = "routes.1.limit.rate"
		}
		checkChange(t, below, func(c *api.Config) { *n.at(c) = n.low - 1 })
		for _, x := range []int{n.high + 1, -1, -2, math.MinInt, math.MaxInt, math.MinInt32, math.MaxInt32, -n.high} {
			checkChange(t, n.place, func(c *api.Config) { *n.at(c) = x })
		}
	}
}

// CF2: lists of none, of just as many as may be, and of one more.
func TestCounts(t *testing.T) {
	key := func(i int) api.Key { return api.Key{ID: fmt.Sprint("key", i), Secret: "s"} }
	pool := func(i int) api.Pool {
		p := full().Pools[0]
		p.Name = fmt.Sprint("pool", i)
		return p
	}
	backend := func(i int) api.Backend { return api.Backend{Addr: fmt.Sprint("more:", i), Weight: 1} }
	text := func(i int) string { return fmt.Sprint("T", i) }
	for _, n := range []struct {
		place     string
		low, most int
		fill      func(c *api.Config, n int)
	}{
		{"keys", 0, 16, func(c *api.Config, n int) { c.Keys = filled(n, key) }},
		{"pools", 1, 32, func(c *api.Config, n int) {
			c.Pools = filled(n, pool)
			c.Routes[0].Pool, c.Routes[1].Pool = "pool0", "pool0"
		}},
		{"pools.1.backends", 1, 32, func(c *api.Config, n int) { c.Pools[1].Backends = filled(n, backend) }},
		{"routes", 1, 64, func(c *api.Config, n int) { c.Routes = filled(n, func(int) api.Route { return full().Routes[1] }) }},
		{"routes.1.methods", 0, 16, func(c *api.Config, n int) { c.Routes[1].Methods = filled(n, text) }},
		{"routes.1.auth.scopes", 0, 16, func(c *api.Config, n int) { c.Routes[1].Auth.Scopes = filled(n, text) }},
	} {
		for _, k := range []int{n.low, n.low + 1, n.most - 1, n.most} {
			checkChange(t, "", func(c *api.Config) { n.fill(c, k) })
		}
		for _, k := range []int{n.most + 1, n.most + 2, 2 * n.most, 500} {
			checkChange(t, n.place, func(c *api.Config) { n.fill(c, k) })
		}
		if n.low == 1 {
			checkChange(t, n.place, func(c *api.Config) { n.fill(c, 0) })
		}
	}
}

// filled is a list of so many, each by its place.
func filled[T any](n int, one func(i int) T) []T {
	l := make([]T, n)
	for i := range l {
		l[i] = one(i)
	}
	return l
}

// CF2: ids, names, methods and scopes: what is a token, how long it may be.
func TestTokens(t *testing.T) {
	for _, n := range []struct {
		place string
		most  int
		set   func(c *api.Config, s string)
	}{
		{"keys.1.id", 64, func(c *api.Config, s string) { c.Keys[1].ID = s }},
		{"pools.1.name", 64, func(c *api.Config, s string) { c.Pools[1].Name, c.Routes[0].Pool = s, s }},
		{"routes.1.methods", 32, func(c *api.Config, s string) { c.Routes[1].Methods = []string{"GET", s, "PUT"} }},
		{"routes.1.auth.scopes", 64, func(c *api.Config, s string) { c.Routes[1].Auth.Scopes = []string{"GET", s, "PUT"} }},
	} {
		for _, s := range []string{"a", "Z", "9", "-", "_.~", "!#$%&'*+-.^_`|~", "0", "K0", "P0", "get", "Put", rest(n.most - 1), rest(n.most), strings.Repeat("~", n.most)} {
			checkChange(t, "", func(c *api.Config) { n.set(c, s) })
		}
		for _, s := range []string{
			"", " ", "a b", "a ", " a", "a\t", "a\n", "a\r\n", "a,b", "a:b", "a/b", "a;b", "a=b", "a@b", "a?b", `a"b`, `a\b`, "(a)", "[a]", "{a}", "<a>", "\x00", "a\x00", "\x7f", "\x80", "\xff", "é", "a\u00a0",
			rest(n.most + 1), rest(n.most + 2), rest(1000), rest(100000), rest(n.most) + " ",
		} {
			checkChange(t, n.place, func(c *api.Config) { n.set(c, s) })
		}
		for c := range 256 {
			s := string([]byte{byte(c)})
			place := n.place
			if ofToken(s, n.most) {
				place = ""
			}
			for _, x := range []string{"-" + s, s + "-", "-" + s + "-"} {
				checkChange(t, place, func(c *api.Config) { n.set(c, x) })
			}
		}
	}
}

// CF2: nothing stands twice, wherever the other one stands; letters of another size are another one.
func TestTwice(t *testing.T) {
	checkChange(t, "keys.1.id", func(c *api.Config) { c.Keys[1].ID = "k0" })
	checkChange(t, "keys.1.id", func(c *api.Config) { c.Keys[0].ID = "k1" })
	checkChange(t, "", func(c *api.Config) { c.Keys[1].ID = "K0" })
	checkChange(t, "", func(c *api.Config) { c.Keys[1].Secret = c.Keys[0].Secret })
	checkChange(t, "", func(c *api.Config) { c.Keys[1].ID = "p0" })
	checkChange(t, "pools.1.name", func(c *api.Config) { c.Pools[1].Name = "p0" })
	checkChange(t, "", func(c *api.Config) { c.Pools[1].Name, c.Routes[0].Pool = "P0", "P0" })
	checkChange(t, "pools.0.backends.1.addr", func(c *api.Config) { c.Pools[0].Backends[1].Addr = "a:80" })
	checkChange(t, "pools.1.backends.1.addr", func(c *api.Config) { c.Pools[1].Backends[1].Addr = "c:82" })
	checkChange(t, "", func(c *api.Config) { c.Pools[0].Backends[1].Addr = "A:80" })
	checkChange(t, "", func(c *api.Config) { c.Pools[0].Backends[1].Addr = "a:080" })
	checkChange(t, "", func(c *api.Config) { c.Pools[1].Backends = c.Pools[0].Backends })
	checkChange(t, "", func(c *api.Config) { c.Pools[1].Backends[1].Addr = "a:80" })
	checkChange(t, "routes.1.methods", func(c *api.Config) { c.Routes[1].Methods[1] = "POST" })
	checkChange(t, "", func(c *api.Config) { c.Routes[1].Methods[1] = "Post" })
	checkChange(t, "", func(c *api.Config) { c.Routes[1].Methods = c.Routes[0].Methods })
	checkChange(t, "routes.1.auth.scopes", func(c *api.Config) { c.Routes[1].Auth.Scopes[1] = "u" })
	checkChange(t, "", func(c *api.Config) { c.Routes[1].Auth.Scopes[1] = "U" })
	checkChange(t, "", func(c *api.Config) { c.Routes[1].Auth.Scopes = c.Routes[0].Auth.Scopes })
	checkChange(t, "", func(c *api.Config) { c.Routes[1] = c.Routes[0] })
	// Not only neighbours.
	for i := range 16 {
		for k := range i {
			l := filled(16, func(i int) api.Key { return api.Key{ID: fmt.Sprint("k", i), Secret: "s"} })
			l[i].ID = l[k].ID
			checkChange(t, joined("keys", i, "id"), func(c *api.Config) { c.Keys = l })
			words := filled(16, func(i int) string { return fmt.Sprint("M", i) })
			words[i] = words[k]
			checkChange(t, "routes.0.methods", func(c *api.Config) { c.Routes[0].Methods = words })
			checkChange(t, "routes.0.auth.scopes", func(c *api.Config) { c.Routes[0].Auth.Scopes = words })
		}
	}
	for i := range 32 {
		for k := range i {
			l := filled(32, func(i int) api.Backend { return api.Backend{Addr: fmt.Sprint("b:", i), Weight: 1} })
			l[i].Addr = l[k].Addr
			checkChange(t, joined("pools.1.backends", i, "addr"), func(c *api.Config) { c.Pools[1].Backends = l })
		}
		pools := filled(32, func(i int) api.Pool { return full().Pools[i%2] })
		for k := range pools {
			pools[k].Name = fmt.Sprint("p", k)
		}
		if i > 0 {
			pools[i].Name = pools[i/2].Name
			checkChange(t, joined("pools", i, "name"), func(c *api.Config) { c.Pools = pools })
		}
	}
}

// CF2: secrets of any bytes, 1 to 256.
func TestSecrets(t *testing.T) {
	for _, s := range []string{"\x00", "\xff", " ", rest(1), rest(255), rest(256), strings.Repeat("\xff", 256)} {
		checkChange(t, "", func(c *api.Config) { c.Keys[1].Secret = s })
	}
	for _, s := range []string{"", rest(257), rest(258), rest(512), strings.Repeat("é", 129)} {
		checkChange(t, "keys.1.secret", func(c *api.Config) { c.Keys[1].Secret = s })
	}
}

// CF2: an addr is a host and a port, of at most 128 bytes.
func TestAddrs(t *testing.T) {
	for _, s := range []string{
		"a:1", "a:0", "a:65535", "a:00065535", "A:80", "a.b.c:80", "127.0.0.1:8080", "-:1", "_:1", ".:1", "..:1", "a-b_c.d:9", "0:0", rest(126) + ":1", rest(123) + ":8080", "a:" + strings.Repeat("0", 126), "a:" + strings.Repeat("0", 125) + "7",
	} {
		checkChange(t, "", func(c *api.Config) { c.Pools[1].Backends[1].Addr = s })
	}
	for _, s := range []string{
		"", "a", "a:", ":", ":80", "80", "a:x", "a:8x", "a:x8", "a: 80", "a :80", " a:80", "a:80 ", "a:80\n", "a:+80", "a:-80", "a:80:", "a:80:80", "a::80", "a:65536", "a:99999", "a:100000", "a:18446744073709551617",
		"[::1]:80", "a/b:80", "*:80", "*.a:80", "a@b:80", "a%20:80", "é:80", "a:８", "a,b:80", "a b:80", "\x00:80", "a\x00:80", "a:80\x00", "\xff:80", "a:\xff", "http://a:80", "a:80/",
		rest(127) + ":1", rest(126) + ":80", rest(128), rest(129), "a:" + strings.Repeat("0", 127), rest(10000) + ":1",
	} {
		checkChange(t, "pools.1.backends.1.addr", func(c *api.Config) { c.Pools[1].Backends[1].Addr = s })
	}
	for b := range 256 {
		x := string([]byte{byte(b)})
		for _, form := range []string{"%:80", "a%:80", "a:%", "a:8%", "a:%8", "a%80", "%a:80", "a:80%"} {
			s := strings.ReplaceAll(form, "%", x)
			place := "pools.0.backends.0.addr"
			if ofAddr(s) && s != "b:81" {
				place = ""
			}
			checkChange(t, place, func(c *api.Config) { c.Pools[0].Backends[0].Addr = s })
		}
	}
}

// CF2: a breaker that never opens has no time, every other one has.
func TestBreakers(t *testing.T) {
	for _, n := range []struct {
		fails, open int
		place       string
	}{
		{0, 0, ""}, {1, 1, ""}, {1000, 1 << 20, ""}, {1, 1 << 20, ""}, {1000, 1, ""}, {0, 1, "open"}, {0, -1, "open"}, {0, 1 << 20, "open"}, {0, 1<<20 + 1, "open"}, {1, 0, "open"}, {1000, 0, "open"}, {1, -1, "open"}, {1, 1<<20 + 1, "open"},
		{-1, 0, "fails"}, {-1, 1, "fails"}, {1001, 0, "fails"}, {1001, 1, "fails"}, {-1, -1, "fails"}, {1001, 1<<20 + 1, "fails"}, {math.MinInt, 0, "fails"}, {math.MaxInt, 1, "fails"},
	} {
		if n.place != "" {
			n.place = "pools.1.breaker." + n.place
		}
		checkChange(t, n.place, func(c *api.Config) { c.Pools[1].Breaker = api.Breaker{Fails: n.fails, Open: n.open} })
	}
}

// CF2: a probe that never asks has nothing else, every other one has all.
func TestProbes(t *testing.T) {
	for _, n := range []struct {
		probe api.Probe
		place string
	}{
		{api.Probe{}, ""},
		{api.Probe{Path: "/"}, "path"}, {api.Probe{Path: "x"}, "path"}, {api.Probe{Timeout: 1}, "timeout"}, {api.Probe{Timeout: -1}, "timeout"}, {api.Probe{Rise: 1}, "rise"}, {api.Probe{Rise: -1}, "rise"}, {api.Probe{Fall: 1}, "fall"}, {api.Probe{Fall: -1}, "fall"},
		{api.Probe{Path: "/", Timeout: 1, Rise: 1, Fall: 1}, "path"}, {api.Probe{Timeout: 1, Rise: 1, Fall: 1}, "timeout"}, {api.Probe{Rise: 1, Fall: 1}, "rise"},
		{api.Probe{Path: "/", Every: 1, Timeout: 1, Rise: 1, Fall: 1}, ""}, {api.Probe{Path: "/", Every: 1 << 20, Timeout: 1 << 20, Rise: 100, Fall: 100}, ""}, {api.Probe{Path: "/", Every: 5, Timeout: 5, Rise: 1, Fall: 100}, ""},
		{api.Probe{Path: "/", Every: 5, Timeout: 6, Rise: 1, Fall: 1}, "timeout"}, {api.Probe{Path: "/", Every: 1, Timeout: 2, Rise: 1, Fall: 1}, "timeout"}, {api.Probe{Path: "/", Every: 1 << 20, Timeout: 1<<20 + 1, Rise: 1, Fall: 1}, "timeout"},
		{api.Probe{Path: "/", Every: 5, Timeout: 0, Rise: 1, Fall: 1}, "timeout"}, {api.Probe{Path: "/", Every: 5, Timeout: -1, Rise: 1, Fall: 1}, "timeout"}, {api.Probe{Path: "/", Every: 5, Timeout: 5, Fall: 1}, "rise"}, {api.Probe{Path: "/", Every: 5, Timeout: 5, Rise: 1}, "fall"},
		{api.Probe{Path: "/", Every: 5, Timeout: 5, Rise: 101, Fall: 1}, "rise"}, {api.Probe{Path: "/", Every: 5, Timeout: 5, Rise: 1, Fall: 101}, "fall"}, {api.Probe{Path: "/", Every: 5}, "timeout"}, {api.Probe{Every: 5}, "path"},
		{api.Probe{Every: -1}, "every"}, {api.Probe{Path: "/", Every: -1, Timeout: -1}, "every"}, {api.Probe{Path: "x", Every: 1<<20 + 1, Timeout: 1, Rise: 1, Fall: 1}, "every"}, {api.Probe{Path: "x", Every: 5, Timeout: 6}, "path"},
	} {
		if n.place != "" {
			n.place = "pools.1.probe." + n.place
		}
		checkChange(t, n.place, func(c *api.Config) { c.Pools[1].Probe = n.probe })
	}
}

// CF2: a probe's path is one that Normal takes, of at most 256 bytes.
func TestProbePaths(t *testing.T) {
	for _, s := range []string{"/", "//", "/a", "/a/b/", "/a/./b/..", "/%41", "/%7e%2F", "/a;b=c,d:e@f", "/!$&'()*+", "/" + rest(255), "/" + strings.Repeat("/", 255), "/a/..", "/%20", "/%80"} {
		checkChange(t, "", func(c *api.Config) { c.Pools[1].Probe.Path = s })
	}
	for _, s := range []string{
		"", "a", "a/", " /", "*", "?", "/?", "/a?b", "/a#b", "/ ", "/a b", "/\t", "/\n", "/\x00", "/\x7f", "/\x80", "/é", "/\xff", "/%", "/%4", "/%4g", "/%00", "/%1f", "/%7f", "/..", "/a/../..", "/../a", "/%2e%2e", `/"`, `/\`, "/<", "/>", "/[", "/{", "/^", "/`", "/|",
		"http://a/", "/" + rest(256), "/" + rest(257), "/" + rest(100000),
	} {
		checkChange(t, "pools.1.probe.path", func(c *api.Config) { c.Pools[1].Probe.Path = s })
	}
	for b := range 256 {
		x := string([]byte{byte(b)})
		for _, form := range []string{"%", "/%", "/a%", "%/", "/%/a", "/a/%b"} {
			s := strings.ReplaceAll(form, "%", x)
			place := "pools.0.probe.path"
			if ofProbePath(s) {
				place = ""
			}
			checkChange(t, place, func(c *api.Config) { c.Pools[0].Probe.Path = s })
		}
	}
}

// CF2: hosts and paths of routes are patterns.
func TestPatterns(t *testing.T) {
	label := rest(63)
	longHost := strings.Join([]string{label, label, label, rest(61)}, ".")
	for _, s := range []string{"", "*", "a", "A.b", "*.a", "a.*", "*.*", "a-b_c.0", label, longHost} {
		checkChange(t, "", func(c *api.Config) { c.Routes[1].Host = s })
	}
	for _, s := range []string{".", "a.", ".a", "a..b", "a*", "**", "a:80", "a/b", " ", "a b", "é", "\x00", "\xff", rest(64), longHost + "x", longHost + ".x", rest(10000)} {
		checkChange(t, "routes.1.host", func(c *api.Config) { c.Routes[1].Host = s })
	}
	for _, s := range []string{"/", "//", "/a", "/a/", "/:a", "/*a", "/a/:b/*c", "/:a/:b", "/%", `/"\`, "/?", "/" + rest(255), strings.Repeat("/a", 64), "/a:b", "/a*"} {
		checkChange(t, "", func(c *api.Config) { c.Routes[1].Path = s })
	}
	for _, s := range []string{"", "a", "*", " /", "/ ", "/a b", "/:", "/*", "/*a/b", "/:a/:a", "/:a/*a", "/:a b", "/\x00", "/\x7f", "/é", "/\xff", "/" + rest(256), strings.Repeat("/a", 65), "/" + rest(100000)} {
		checkChange(t, "routes.1.path", func(c *api.Config) { c.Routes[1].Path = s })
	}
}

// CF2: a route's pool is the name of one.
func TestPoolsOfRoutes(t *testing.T) {
	for _, s := range []string{"p0", "p1"} {
		checkChange(t, "", func(c *api.Config) { c.Routes[1].Pool = s })
	}
	for _, s := range []string{"", "p", "p2", "P0", "p0 ", " p0", "p00", "0", "x", "k0", "a:80", "\x00", "\xff", "p0\x00", rest(1000)} {
		checkChange(t, "routes.1.pool", func(c *api.Config) { c.Routes[1].Pool = s })
		checkChange(t, "routes.0.pool", func(c *api.Config) { c.Routes[0].Pool = s })
	}
	checkChange(t, "", func(c *api.Config) { c.Pools[1].Name, c.Routes[0].Pool = "other", "other" })
	checkChange(t, "routes.0.pool", func(c *api.Config) { c.Pools[1].Name = "other" })
}

// CF2: issuer and audience.
func TestClaims(t *testing.T) {
	for name, set := range map[string]func(c *api.Config, s string){
		"issuer":   func(c *api.Config, s string) { c.Routes[1].Auth.Issuer = s },
		"audience": func(c *api.Config, s string) { c.Routes[1].Auth.Audience = s },
	} {
		for _, s := range []string{"", " ", "a b", "\x00", "\n", "\x7f", "é", "\U0010ffff", "\ufffd", "https://a.b/c?d", `"\`, rest(255), rest(256), strings.Repeat("é", 128), strings.Repeat("\U0001F600", 64), strings.Repeat("\x00", 256)} {
			checkChange(t, "", func(c *api.Config) { set(c, s) })
		}
		for _, s := range []string{rest(257), rest(258), rest(100000), strings.Repeat("é", 129), strings.Repeat("é", 128) + "x", "\xff", "\x80", "a\xc3", "\xc0\x80", "\xed\xa0\x80", "\xf4\x90\x80\x80", "\xe2\x82", rest(255) + "\xff", "\xff" + rest(255)} {
			checkChange(t, "routes.1.auth."+name, func(c *api.Config) { set(c, s) })
		}
	}
}

// CF2: what is not On has nothing else.
func TestNotOn(t *testing.T) {
	off := func(c *api.Config) { c.Routes[0].Auth = api.Auth{} }
	checkChange(t, "", off)
	for place, set := range map[string]func(a *api.Auth){
		"issuer":   func(a *api.Auth) { a.Issuer = "i" },
		"audience": func(a *api.Auth) { a.Audience = "a" },
		"scopes":   func(a *api.Auth) { a.Scopes = []string{"s"} },
		"leeway":   func(a *api.Auth) { a.Leeway = 1 },
	} {
		checkPlace(t, changed(full(), off, func(c *api.Config) { set(&c.Routes[0].Auth) }), "routes.0.auth."+place)
		checkPlace(t, changed(full(), func(c *api.Config) {
			c.Routes[0].Auth = api.Auth{On: true}
			set(&c.Routes[0].Auth)
		}), "")
	}
	checkChange(t, "routes.0.auth.leeway", func(c *api.Config) { c.Routes[0].Auth = api.Auth{Leeway: -1} })
	checkChange(t, "routes.0.auth.issuer", func(c *api.Config) { c.Routes[0].Auth.On = false })
	checkChange(t, "routes.0.auth.scopes", func(c *api.Config) { c.Routes[0].Auth = api.Auth{Scopes: []string{""}} })
	checkChange(t, "", func(c *api.Config) { c.Routes[0].Auth = api.Auth{Scopes: []string{}} })
	checkChange(t, "", func(c *api.Config) { c.Routes[0].Auth = api.Auth{On: true} })
}

// CF2: a limit of nobody has nothing else; a subject is counted only where a token is asked for.
func TestLimits(t *testing.T) {
	for _, n := range []struct {
		limit api.Limit
		place string // without auth
	}{
		{api.Limit{}, ""}, {api.Limit{Rate: 1}, "rate"}, {api.Limit{Per: 1}, "per"}, {api.Limit{Burst: 1}, "burst"}, {api.Limit{Rate: -1}, "rate"}, {api.Limit{Per: -1}, "per"}, {api.Limit{Burst: -1}, "burst"}, {api.Limit{Rate: 1, Per: 1, Burst: 1}, "rate"},
		{api.Limit{By: 1, Rate: 1, Per: 1, Burst: 1}, ""}, {api.Limit{By: 1, Rate: 1 << 20, Per: 1 << 20, Burst: 1 << 20}, ""}, {api.Limit{By: 1}, "rate"}, {api.Limit{By: 1, Rate: 1}, "per"}, {api.Limit{By: 1, Rate: 1, Per: 1}, "burst"},
		{api.Limit{By: 3, Rate: 1, Per: 1, Burst: 1}, "by"}, {api.Limit{By: -1, Rate: 1, Per: 1, Burst: 1}, "by"}, {api.Limit{By: -1}, "by"}, {api.Limit{By: 3}, "by"},
		{api.Limit{By: 2, Rate: 1, Per: 1, Burst: 1}, "by"}, {api.Limit{By: 2}, "by"}, {api.Limit{By: 2, Rate: 1}, "by"}, {api.Limit{By: 2, Rate: 1, Per: 1<<20 + 1, Burst: 1}, "by"},
	} {
		at := func(place string) string {
			if place == "" {
				return ""
			}
			return "routes.0.limit." + place
		}
		checkChange(t, at(n.place), func(c *api.Config) { c.Routes[0].Auth, c.Routes[0].Limit = api.Auth{}, n.limit })
		on := n.place
		if n.limit.By == 2 {
			on = map[api.Limit]string{{By: 2, Rate: 1, Per: 1, Burst: 1}: "", {By: 2}: "rate", {By: 2, Rate: 1}: "per", {By: 2, Rate: 1, Per: 1<<20 + 1, Burst: 1}: "per"}[n.limit]
		}
		checkChange(t, at(on), func(c *api.Config) { c.Routes[0].Auth, c.Routes[0].Limit = api.Auth{On: true}, n.limit })
	}
}

// wrongs make full wrong at one place each, in the order of the chapter.
func wrongs() []struct {
	place string
	make  func(c *api.Config)
} {
	type wrong = struct {
		place string
		make  func(c *api.Config)
	}
	l := []wrong{{"keys", func(c *api.Config) { c.Keys = append(c.Keys, make([]api.Key, 15)...) }}}
	add := func(place string, make func(c *api.Config)) { l = append(l, wrong{place, make}) }
	for i := range 2 {
		at := fmt.Sprint("keys.", i, ".")
		add(at+"id", func(c *api.Config) { c.Keys[i].ID = "" })
		add(at+"secret", func(c *api.Config) { c.Keys[i].Secret = "" })
	}
	add("pools", func(c *api.Config) { c.Pools = append(c.Pools, make([]api.Pool, 31)...) })
	for i := range 2 {
		at := fmt.Sprint("pools.", i, ".")
		add(at+"name", func(c *api.Config) { c.Pools[i].Name = "" })
		add(at+"backends", func(c *api.Config) { c.Pools[i].Backends = append(c.Pools[i].Backends, make([]api.Backend, 31)...) })
		for k := range 2 {
			at := fmt.Sprint(at, "backends.", k, ".")
			add(at+"addr", func(c *api.Config) { c.Pools[i].Backends[k].Addr = "" })
			add(at+"weight", func(c *api.Config) { c.Pools[i].Backends[k].Weight = 0 })
		}
		add(at+"policy", func(c *api.Config) { c.Pools[i].Policy = 0 })
		add(at+"retries", func(c *api.Config) { c.Pools[i].Retries = 9 })
		add(at+"timeout", func(c *api.Config) { c.Pools[i].Timeout = 0 })
		add(at+"breaker.fails", func(c *api.Config) { c.Pools[i].Breaker.Fails = 1001 })
		add(at+"breaker.open", func(c *api.Config) { c.Pools[i].Breaker.Open = 0 })
		add(at+"probe.every", func(c *api.Config) { c.Pools[i].Probe.Every = -1 })
		add(at+"probe.path", func(c *api.Config) { c.Pools[i].Probe.Path = "" })
		add(at+"probe.timeout", func(c *api.Config) { c.Pools[i].Probe.Timeout = 0 })
		add(at+"probe.rise", func(c *api.Config) { c.Pools[i].Probe.Rise = 0 })
		add(at+"probe.fall", func(c *api.Config) { c.Pools[i].Probe.Fall = 0 })
	}
	add("routes", func(c *api.Config) { c.Routes = append(c.Routes, make([]api.Route, 63)...) })
	for i := range 2 {
		at := fmt.Sprint("routes.", i, ".")
		add(at+"host", func(c *api.Config) { c.Routes[i].Host = "." })
		add(at+"path", func(c *api.Config) { c.Routes[i].Path = "" })
		add(at+"methods", func(c *api.Config) { c.Routes[i].Methods = []string{""} })
		add(at+"pool", func(c *api.Config) { c.Routes[i].Pool = "no" })
		add(at+"auth.issuer", func(c *api.Config) { c.Routes[i].Auth.Issuer = rest(257) })
		add(at+"auth.audience", func(c *api.Config) { c.Routes[i].Auth.Audience = rest(257) })
		add(at+"auth.scopes", func(c *api.Config) { c.Routes[i].Auth.Scopes = []string{""} })
		add(at+"auth.leeway", func(c *api.Config) { c.Routes[i].Auth.Leeway = -1 })
		add(at+"limit.by", func(c *api.Config) { c.Routes[i].Limit.By = 3 })
		add(at+"limit.rate", func(c *api.Config) { c.Routes[i].Limit.Rate = 0 })
		add(at+"limit.per", func(c *api.Config) { c.Routes[i].Limit.Per = 0 })
		add(at+"limit.burst", func(c *api.Config) { c.Routes[i].Limit.Burst = 0 })
	}
	add("maxhead", func(c *api.Config) { c.MaxHead = 0 })
	add("maxbody", func(c *api.Config) { c.MaxBody = -1 })
	add("maxconns", func(c *api.Config) { c.MaxConns = 0 })
	add("idle", func(c *api.Config) { c.Idle = 0 })
	add("header", func(c *api.Config) { c.Header = 0 })
	return l
}

// CF2: one thing wrong, and each two: the first place is told.
func TestOrderOfPlaces(t *testing.T) {
	l := wrongs()
	for i, first := range l {
		checkChange(t, first.place, first.make)
		for _, second := range l[i+1:] {
			checkPlace(t, changed(full(), second.make, first.make), first.place)
		}
	}
	// All at once, and then one less each time.
	for i := range l {
		c := copyOf(full())
		for _, w := range l[i:] {
			w.make(&c)
		}
		checkPlace(t, c, l[i].place)
	}
}
