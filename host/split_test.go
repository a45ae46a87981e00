package host

import (
	"fmt"
	"strings"
	"testing"
)

// HT3: the chapter's examples.
func TestSplitExamples(t *testing.T) {
	checkSplit(t, "H.x:80", "h.x", 80)
	checkSplit(t, "h:080", "", 0)
}

// HT3: a host alone, or with a port.
func TestSplit(t *testing.T) {
	for authority, want := range map[string]string{
		"a": "a 0", "A": "a 0", "a.b": "a.b 0", "WWW.X.y": "www.x.y 0", "-": "- 0", "_": "_ 0", "0": "0 0", "80": "80 0",
		"a:1": "a 1", "a:9": "a 9", "a:10": "a 10", "a:99": "a 99", "A.B:100": "a.b 100", "a:443": "a 443", "a:999": "a 999", "a:1000": "a 1000", "a:8080": "a 8080", "a:9999": "a 9999", "a:10000": "a 10000", "a:65534": "a 65534", "Z:65535": "z 65535",
		"127.0.0.1:80": "127.0.0.1 80", "80:80": "80 80", "-:1": "- 1", "_._:20000": "_._ 20000",
	} {
		var host string
		var port int
		fmt.Sscan(want, &host, &port)
		checkSplit(t, authority, host, port)
	}
	for _, authority := range []string{
		"", ":", ":80", "::", ":0", "a:", "a.b:", "a:0", "a:00", "a:01", "a:080", "a:0080", "a:00080", "a:000080", "a:065535", "a:00001",
		"a:65536", "a:65537", "a:65545", "a:66000", "a:70000", "a:99999", "a:100000", "a:123456", "a:655350", "a:18446744073709551617", "a:4294967297", "a:" + strings.Repeat("1", 1000), "a:" + strings.Repeat("0", 1000) + "1",
		"a:+1", "a:-1", "a:-0", "a: 1", "a:1 ", "a :1", " a:1", "a:1a", "a:a", "a:0x1", "a:1.0", "a:1_0", "a:1e1", "a:*", "a:8\x00", "a:\xff", "a:１", "a:1\n", "a:/", "a:80/", "a:;", "a:8:",
		"a:80:80", "a::80", "a:80:", ":a:80", "a:b:80", "a:b", "::1", "[::1]:80", "[a]:80", "a@b:80", "u@a", "http://a:80", "a/b",
		"*", "*:80", "*.a", "*.a:80", "a.*:80", "a*:80", ".", ".:80", "a.:80", ".a:80", "a..b:80", "a b:80", "é:80", "a\xff:80", "\x00:1", "a,b", "a,b:80",
	} {
		checkSplit(t, authority, "", 0)
	}
}

// HT3: each number as a port, and with a nought ahead.
func TestEachPort(t *testing.T) {
	for port := range 70000 {
		s := fmt.Sprint("H:", port)
		if h, p, err := Split(s); port >= 1 && port <= 65535 {
			if h != "h" || p != port || err != nil {
				t.Fatalf("Split(%q): %q, %d, %v", s, h, p, err)
			}
		} else {
			checkSplit(t, s, "", 0)
		}
		if port < 2000 {
			checkSplit(t, fmt.Sprint("h:0", port), "", 0)
			checkSplit(t, fmt.Sprint("h:00", port), "", 0)
		}
	}
}

// HT3: each byte in a host and in a port.
func TestEachByteOfAnAuthority(t *testing.T) {
	for c := range 256 {
		x := string([]byte{byte(c)})
		for _, form := range []string{"%", "a%", "%a", "a%b", "a%1", "%:1", "a%:1", "%a:1", "a%b:1", "a:%", "a:1%", "a:%1", "a:1%1", "a:1%111", "a:%5535", "a:6553%"} {
			s := strings.ReplaceAll(form, "%", x)
			host, port, _ := ofSplit(s)
			checkSplit(t, s, host, port)
		}
	}
}

// HT3: hosts of each size, with a port and without.
func TestSizesOfAuthorities(t *testing.T) {
	for n := 1; n <= 300; n++ {
		want := sized(n)
		port := 65535
		if n > 253 {
			want, port = "", 0
		}
		checkSplit(t, sized(n), want, 0)
		checkSplit(t, strings.ToUpper(sized(n)), want, 0)
		checkSplit(t, sized(n)+":65535", want, port)
	}
	checkSplit(t, strings.Repeat("a", 63)+":1", strings.Repeat("a", 63), 1)
	checkSplit(t, strings.Repeat("a", 64)+":1", "", 0)
	checkSplit(t, strings.Repeat("a", 1<<20)+":1", "", 0)
	checkSplit(t, strings.Repeat(":", 1<<20), "", 0)
	checkSplit(t, "a"+strings.Repeat(":1", 1<<20), "", 0)
}

// HT3: every short text.
func TestEachShortAuthority(t *testing.T) {
	ports, alone := 0, 0
	for _, s := range texts("a.:01B*", 6) {
		host, port, err := ofSplit(s)
		switch {
		case err == nil && port > 0:
			ports++
		case err == nil:
			alone++
		}
		checkSplit(t, s, host, port)
	}
	if ports < 300 || alone < 3000 {
		t.Errorf("only %d with a port, %d without", ports, alone)
	}
}

// HT3: what Split tells of a host alone is what Canon does.
func TestSplitIsCanon(t *testing.T) {
	m := newMaker(6)
	for range 5000 {
		h := m.spoilt(m.host())
		if strings.Contains(h, ":") {
			continue
		}
		want, wantErr := Canon(h)
		if got, port, err := Split(h); got != want || port != 0 || err != wantErr {
			t.Fatalf("Split(%q): %q, %d, %v", h, got, port, err)
		}
		wantPort := 1 + m.Intn(65535)
		if wantErr != nil {
			wantPort = 0
		}
		checkSplit(t, fmt.Sprint(h, ":", max(wantPort, 1)), want, wantPort)
	}
}
