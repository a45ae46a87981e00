package config

import (
	"fmt"
	"reflect"
	"strings"
	"testing"
	"turnstile/api"
	"turnstile/json"
)

// checkPrint asks for a configuration's text, as it stands.
func checkPrint(t *testing.T, c api.Config, want string) {
	t.Helper()
	if got, err := Print(c); got != want || err != nil {
		t.Errorf("Print(%s): %s, %v, not %s", short(c), got, err, want)
	}
	checkPlace(t, c, "")
}

// CF3: the texts of two configurations, one with all names and one with none that may be missing.
func TestPrint(t *testing.T) {
	checkPrint(t, full(), fullText)
	checkPrint(t, least(), leastText)
	for _, c := range []api.Config{{}, changed(full(), func(c *api.Config) { c.Header = 0 })} {
		if text, err := Print(c); text != "" || err != api.ErrConfig {
			t.Errorf("Print(%s): %q, %v", short(c), text, err)
		}
	}
}

// CF3: each name in brackets at just the value that is taken for it, and at others.
func TestPrintLeavesOut(t *testing.T) {
	pool := func(behind string) string {
		return strings.Replace(leastText, `"backends":[{"addr":"a:80"}]`, `"backends":[{"addr":"a:80"}],`+behind, 1)
	}
	ahead := func(text string) string { return strings.Replace(leastText, `"pool":"p"`, text+`,"pool":"p"`, 1) }
	route := func(behind string) string {
		return strings.Replace(leastText, `"pool":"p"`, `"pool":"p",`+behind, 1)
	}
	last := func(behind string) string { return strings.TrimSuffix(leastText, "}") + "," + behind + "}" }
	for want, change := range map[string]func(c *api.Config){
		strings.Replace(leastText, `{`, `{"keys":[{"id":"k","secret":"AA"}],`, 1): func(c *api.Config) { c.Keys = []api.Key{{ID: "k", Secret: "\x00"}} },
		strings.Replace(leastText, `"a:80"`, `"a:80","weight":2`, 1):              func(c *api.Config) { c.Pools[0].Backends[0].Weight = 2 },
		pool(`"policy":"hash"`):                                     func(c *api.Config) { c.Pools[0].Policy = 2 },
		pool(`"retries":1`):                                         func(c *api.Config) { c.Pools[0].Retries = 1 },
		pool(`"timeout":29`):                                        func(c *api.Config) { c.Pools[0].Timeout = 29 },
		pool(`"timeout":31`):                                        func(c *api.Config) { c.Pools[0].Timeout = 31 },
		pool(`"breaker":{"fails":1,"open":1}`):                      func(c *api.Config) { c.Pools[0].Breaker = api.Breaker{Fails: 1, Open: 1} },
		ahead(`"methods":["GET"]`):                                  func(c *api.Config) { c.Routes[0].Methods = []string{"GET"} },
		ahead(`"methods":["GET","A"]`):                              func(c *api.Config) { c.Routes[0].Methods = []string{"GET", "A"} },
		route(`"auth":{}`):                                          func(c *api.Config) { c.Routes[0].Auth.On = true },
		route(`"auth":{"issuer":"x"}`):                              func(c *api.Config) { c.Routes[0].Auth = api.Auth{On: true, Issuer: "x"} },
		route(`"auth":{"audience":"x"}`):                            func(c *api.Config) { c.Routes[0].Auth = api.Auth{On: true, Audience: "x"} },
		route(`"auth":{"scopes":["x"]}`):                            func(c *api.Config) { c.Routes[0].Auth = api.Auth{On: true, Scopes: []string{"x"}} },
		route(`"auth":{"leeway":1}`):                                func(c *api.Config) { c.Routes[0].Auth = api.Auth{On: true, Leeway: 1} },
		route(`"auth":{"issuer":"x","leeway":1}`):                   func(c *api.Config) { c.Routes[0].Auth = api.Auth{On: true, Issuer: "x", Leeway: 1} },
		last(`"maxhead":8191`):                                      func(c *api.Config) { c.MaxHead = 8191 },
		last(`"maxhead":8193`):                                      func(c *api.Config) { c.MaxHead = 8193 },
		last(`"maxbody":0`):                                         func(c *api.Config) { c.MaxBody = 0 },
		last(`"maxbody":65537`):                                     func(c *api.Config) { c.MaxBody = 65537 },
		last(`"maxconns":63`):                                       func(c *api.Config) { c.MaxConns = 63 },
		last(`"idle":59`):                                           func(c *api.Config) { c.Idle = 59 },
		last(`"idle":61`):                                           func(c *api.Config) { c.Idle = 61 },
		last(`"header":9`):                                          func(c *api.Config) { c.Header = 9 },
		last(`"header":1048576`):                                    func(c *api.Config) { c.Header = 1048576 },
		last(`"maxhead":64,"maxconns":1`):                           func(c *api.Config) { c.MaxHead, c.MaxConns = 64, 1 },
		route(`"limit":{"by":"client","rate":1,"per":2,"burst":3}`): func(c *api.Config) { c.Routes[0].Limit = api.Limit{By: 1, Rate: 1, Per: 2, Burst: 3} },
		route(`"auth":{},"limit":{"by":"subject","rate":1,"per":1,"burst":1}`): func(c *api.Config) {
			c.Routes[0].Auth.On, c.Routes[0].Limit = true, api.Limit{By: 2, Rate: 1, Per: 1, Burst: 1}
		},
		pool(`"probe":{"path":"/","every":30,"timeout":30,"rise":1,"fall":1}`): func(c *api.Config) {
			c.Pools[0].Probe = api.Probe{Path: "/", Every: 30, Timeout: 30, Rise: 1, Fall: 1}
		},
	} {
		checkPrint(t, changed(least(), change), want)
	}
	// A list of none is the one that is taken.
	checkPrint(t, changed(least(), func(c *api.Config) {
		c.Keys, c.Routes[0].Methods, c.Routes[0].Auth.Scopes = []api.Key{}, []string{}, []string{}
	}), leastText)
	// In full each name in turn at the value that is taken: it alone goes.
	for place, change := range taken {
		v := tree(t, fullText)
		cut(v, place)
		checkPrint(t, changed(full(), change), written(t, v))
	}
}

// CF3: what is written out with the value that is taken for it is printed without it.
func TestPrintOfParse(t *testing.T) {
	for _, c := range []api.Config{full(), least(), changed(least(), func(c *api.Config) { c.Routes[0].Auth.On = true })} {
		got, place, err := Parse(ofText(c, true))
		if place != "" || err != nil {
			t.Fatalf("%q, %v", place, err)
		}
		checkPrint(t, got, ofText(c, false))
	}
	text := `{"keys":[],"pools":[{"name":"p","backends":[{"addr":"a:80","weight":1}],"policy":"turns","retries":0,"timeout":30,"breaker":{"fails":0,"open":0},"probe":{"path":"","every":0,"timeout":0,"rise":0,"fall":0}}],` +
		`"routes":[{"host":"*","path":"/","methods":[],"pool":"p"}],"maxhead":8192,"maxbody":65536,"maxconns":64,"idle":60,"header":10}`
	checkText(t, text, least(), "", nil)
}

// CF3: texts with bytes that layer 6 writes otherwise.
func TestPrintQuotes(t *testing.T) {
	issuer := "\"\\/\b\f\n\r\t\x00\x1f\x7fé\u2028\U0001F600<>&"
	c := changed(least(), func(c *api.Config) {
		c.Routes[0].Auth = api.Auth{On: true, Issuer: issuer, Audience: "\x01"}
		c.Routes[0].Path = `/"\`
		c.Keys = []api.Key{{ID: "'`", Secret: "\xfb\xff\xfe\""}}
	})
	checkPrint(t, c, `{"keys":[{"id":"'`+"`"+`","secret":"-__-Ig"}],"pools":[{"name":"p","backends":[{"addr":"a:80"}]}],"routes":[{"host":"*","path":"/\"\\","pool":"p",`+
		`"auth":{"issuer":"\"\\/\u0008\u000c\n\r\t\u0000\u001f`+"\x7fé\u2028\U0001F600"+`<>&","audience":"\u0001"}}]}`)
	for b := range 128 {
		c.Routes[0].Auth.Issuer = string([]byte{byte(b)})
		q, err := json.Quote(c.Routes[0].Auth.Issuer)
		text, printErr := Print(c)
		if err != nil || printErr != nil || !strings.Contains(text, `"issuer":`+q+`,`) {
			t.Errorf("%s, %v, %v", text, err, printErr)
		}
		checkPlace(t, c, "")
	}
}

// greatest is a configuration of which each part is as long as it may be.
func greatest() api.Config {
	c := api.Config{MaxHead: 1 << 16, MaxBody: 1 << 20, MaxConns: 63, Idle: 1 << 20, Header: 1 << 20}
	long := func(n, i int) string { return rest(n-2) + fmt.Sprintf("%02d", i) }
	words := func(n int) []string { return filled(16, func(i int) string { return long(n, i) }) }
	c.Keys = filled(16, func(i int) api.Key { return api.Key{ID: long(64, i), Secret: strings.Repeat("\xff", 256)} })
	c.Pools = filled(32, func(i int) api.Pool {
		return api.Pool{Name: long(64, i), Policy: 2, Retries: 8, Timeout: 1 << 20, Breaker: api.Breaker{Fails: 1000, Open: 1 << 20},
			Probe:    api.Probe{Path: "/" + rest(255), Every: 1 << 20, Timeout: 1 << 20, Rise: 100, Fall: 100},
			Backends: filled(32, func(k int) api.Backend { return api.Backend{Addr: rest(122) + fmt.Sprintf(":655%02d", k), Weight: 256} })}
	})
	label := rest(63)
	c.Routes = filled(64, func(i int) api.Route {
		return api.Route{Host: strings.Join([]string{label, label, label, rest(61)}, "."), Path: "/" + strings.Repeat(`"`, 255), Methods: words(32), Pool: c.Pools[i%32].Name,
			Auth:  api.Auth{On: true, Issuer: strings.Repeat("\x00", 256), Audience: strings.Repeat("\x1f", 256), Scopes: words(64), Leeway: 1 << 20},
			Limit: api.Limit{By: 2, Rate: 1 << 20, Per: 1 << 20, Burst: 1 << 20}}
	})
	return c
}

// CF3, CF4: the longest text of all is no longer than JSON may be.
func TestPrintOfTheGreatest(t *testing.T) {
	c := greatest()
	checkPlace(t, c, "")
	text, err := Print(c)
	if err != nil || len(text) > api.MaxJSON || len(text) < 500000 {
		t.Errorf("%d bytes, %v", len(text), err)
	}
}

// checkSame asks whether two are the same, both ways round.
func checkSame(t *testing.T, a, b api.Config, want bool) {
	t.Helper()
	if Same(a, b) != want || Same(b, a) != want {
		t.Errorf("Same(%s, %s): not %v", short(a), short(b), want)
	}
	if alike(a, b) != want {
		t.Errorf("the words of Same(%s, %s): not %v", short(a), short(b), want)
	}
}

// CF3: two that part in one field only are not the same, whichever it is.
func TestSameButOneField(t *testing.T) {
	checkSame(t, full(), full(), true)
	checkSame(t, least(), least(), true)
	checkSame(t, greatest(), greatest(), true)
	checkSame(t, api.Config{}, api.Config{}, true)
	checkSame(t, full(), least(), false)
	checkSame(t, full(), api.Config{}, false)
	fields := 0
	for _, c := range []api.Config{full(), least()} {
		for i := range leaves(reflect.ValueOf(&c).Elem()) {
			for _, other := range others(c, i) {
				checkSame(t, c, other, false)
				fields++
			}
		}
	}
	if fields < 250 {
		t.Errorf("only %d were asked", fields)
	}
}

// others are copies of a configuration that part from it in one field only.
func others(c api.Config, leaf int) []api.Config {
	var l []api.Config
	add := func(change func(v reflect.Value)) {
		other := copyOf(c)
		change(leaves(reflect.ValueOf(&other).Elem())[leaf])
		l = append(l, other)
	}
	switch v := leaves(reflect.ValueOf(&c).Elem())[leaf]; v.Kind() {
	case reflect.Bool:
		add(func(v reflect.Value) { v.SetBool(!v.Bool()) })
	case reflect.Int:
		add(func(v reflect.Value) { v.SetInt(v.Int() + 1) })
		add(func(v reflect.Value) { v.SetInt(-1) })
	case reflect.String:
		add(func(v reflect.Value) { v.SetString(v.String() + "x") })
		add(func(v reflect.Value) { v.SetString(v.String() + "\x00") })
		if up := strings.ToUpper(v.String()); up != v.String() {
			add(func(v reflect.Value) { v.SetString(up) })
		}
	case reflect.Slice:
		add(func(v reflect.Value) { v.Set(reflect.Append(v, reflect.Zero(v.Type().Elem()))) })
		if v.Len() > 0 {
			add(func(v reflect.Value) { v.Set(v.Slice(0, v.Len()-1)) })
			add(func(v reflect.Value) { v.Set(v.Slice(1, v.Len())) })
			add(func(v reflect.Value) { v.SetZero() })
			add(func(v reflect.Value) { v.Set(reflect.Append(v, v.Index(v.Len()-1))) })
		}
		if v.Len() > 1 {
			add(func(v reflect.Value) { reflect.Swapper(v.Interface())(0, 1) })
		}
	}
	return l
}

// CF3: a list of no elements is the same as nil, wherever it stands, and whatever room it has.
func TestSameOfEmptyLists(t *testing.T) {
	empty := func(c *api.Config) {
		for _, v := range leaves(reflect.ValueOf(c).Elem()) {
			if v.Kind() == reflect.Slice && v.Len() == 0 {
				v.Set(reflect.MakeSlice(v.Type(), 0, 3))
			}
		}
	}
	for _, c := range []api.Config{{}, least(), {Pools: make([]api.Pool, 2), Routes: make([]api.Route, 2)}, changed(full(), func(c *api.Config) { c.Keys, c.Routes[1].Methods = nil, nil })} {
		other := copyOf(c)
		empty(&other)
		checkSame(t, c, other, true)
		checkSame(t, other, other, true)
		at, err := Valid(c)
		if place, otherErr := Valid(other); place != at || otherErr != err {
			t.Errorf("Valid(%s): %q, %v, not %q, %v", short(other), place, otherErr, at, err)
		}
		text, err := Print(c)
		if otherText, otherErr := Print(other); otherText != text || otherErr != err {
			t.Errorf("Print(%s): %s, %v, not %s, %v", short(other), otherText, otherErr, text, err)
		}
	}
	checkSame(t, api.Config{Keys: []api.Key{}}, api.Config{Keys: []api.Key{{}}}, false)
}

// CF3: a pool's place by its name, also in a configuration that may not be.
func TestPool(t *testing.T) {
	check := func(c api.Config, name string, want int, wantErr error) {
		t.Helper()
		if got, err := Pool(c, name); got != want || err != wantErr {
			t.Errorf("Pool(%s, %q): %d, %v, not %d, %v", short(c), name, got, err, want, wantErr)
		}
	}
	check(full(), "p0", 0, nil)
	check(full(), "p1", 1, nil)
	check(least(), "p", 0, nil)
	for _, name := range []string{"", "p", "p2", "P0", "p0 ", " p0", "p00", "p0\x00", "k0", "a:80", "x", "\xff", rest(1000)} {
		check(full(), name, 0, api.ErrNone)
	}
	check(api.Config{}, "", 0, api.ErrNone)
	check(api.Config{}, "p", 0, api.ErrNone)
	for i, p := range greatest().Pools {
		check(greatest(), p.Name, i, nil)
	}
	// Of several that have the name the first one counts.
	odd := api.Config{Pools: []api.Pool{{Name: "a"}, {Name: ""}, {Name: "b b"}, {Name: "a"}, {Name: "\xff"}}}
	check(odd, "a", 0, nil)
	check(odd, "", 1, nil)
	check(odd, "b b", 2, nil)
	check(odd, "\xff", 4, nil)
	check(odd, "b", 0, api.ErrNone)
	check(changed(full(), func(c *api.Config) { c.Header = -1 }), "p1", 1, nil)
	check(changed(full(), func(c *api.Config) { c.Pools = append(c.Pools, make([]api.Pool, 100)...) }), "", 2, nil)
}

// CF3: what a gateway holds at most.
func TestBounds(t *testing.T) {
	check := func(head, body, conns, held int) {
		t.Helper()
		c := changed(full(), func(c *api.Config) { c.MaxHead, c.MaxBody, c.MaxConns = head, body, conns })
		n, clients, buckets, err := Bounds(c)
		if n != held || clients != conns || buckets != 1024 || err != nil {
			t.Errorf("Bounds of %d, %d, %d: %d, %d, %d, %v", head, body, conns, n, clients, buckets, err)
		}
		checkPlace(t, c, "")
	}
	check(64, 0, 1, 131136)
	check(65536, 1048576, 64, 79691776)
	check(8192, 65536, 64, 13107200)
	check(65, 0, 1, 131137)
	check(64, 1, 1, 131137)
	check(64, 0, 2, 262272)
	check(100, 200, 30, 3941160)
	for _, change := range []func(c *api.Config){
		func(c *api.Config) { *c = api.Config{} }, func(c *api.Config) { c.MaxHead = 63 }, func(c *api.Config) { c.MaxBody = -1 }, func(c *api.Config) { c.MaxConns = 65 }, func(c *api.Config) { c.Keys[0].ID = "" }, func(c *api.Config) { c.Header = 0 },
	} {
		n, clients, buckets, err := Bounds(changed(full(), change))
		if n != 0 || clients != 0 || buckets != 0 || err != api.ErrConfig {
			t.Errorf("Bounds: %d, %d, %d, %v", n, clients, buckets, err)
		}
	}
}
