package config

import (
	"math/rand"
	"slices"
	"strings"
	"testing"
	"turnstile/api"
)

// CF1: the chapter's example, and the same with a pool that is there.
func TestExample(t *testing.T) {
	checkWrong(t, `{"pools":[{"name":"p","backends":[{"addr":"a:80"}]}],"routes":[{"host":"*","path":"/","pool":"q"}]}`, "routes.0.pool")
	checkText(t, `{"pools":[{"name":"p","backends":[{"addr":"a:80"}]}],"routes":[{"host":"*","path":"/","pool":"p"}]}`, least(), "", nil)
}

// CF1: a text with all names, and one with none that may be missing; blanks around parts change nothing.
func TestWholeTexts(t *testing.T) {
	checkText(t, fullText, full(), "", nil)
	checkText(t, leastText, least(), "", nil)
	checkText(t, " \t\r\n"+fullText+"\n", full(), "", nil)
	spread := strings.NewReplacer("{", " { ", "}", "\n}\t", "[", "[\r\n", "]", " ]", ",", " , ", `":`, `"	: `)
	checkText(t, spread.Replace(fullText), full(), "", nil)
	checkText(t, spread.Replace(leastText), least(), "", nil)
}

// CF1: names and texts may be written with escapes.
func TestEscapes(t *testing.T) {
	text := strings.NewReplacer(`"pools"`, `"\u0070ool\u0073"`, `"path":"/"`, `"path":"\/"`, `"name":"p"`, `"na\u006De":"\u0070"`).Replace(leastText)
	checkText(t, text, least(), "", nil)
	c := changed(full(), func(c *api.Config) { c.Routes[0].Auth.Issuer = "\"\\/\b\f\n\r\té\U0001F600\x00\x7f" })
	checkText(t, strings.ReplaceAll(fullText, `"i0"`, `"\"\\\/\b\f\n\r\t\u00e9\ud83d\ude00\u0000`+"\x7f\""), c, "", nil)
}

// CF1: a text that is no JSON is layer 6's error, at no place.
func TestNoJSON(t *testing.T) {
	for text, want := range map[string]error{
		"": api.ErrForm, " ": api.ErrForm, "{": api.ErrForm, "}": api.ErrForm, "{}x": api.ErrForm, "{,}": api.ErrForm, `{"pools":}`: api.ErrForm, `{"pools":[],}`: api.ErrForm, "nul": api.ErrForm, "\xff": api.ErrForm,
		leastText + ",": api.ErrForm, leastText[1:]: api.ErrForm, leastText[:len(leastText)-1]: api.ErrForm, strings.Replace(leastText, `"p"`, "\"\xff\"", 1): api.ErrForm,
		strings.Replace(leastText, `"p"`, "\"\n\"", 1): api.ErrForm, strings.Replace(leastText, `"p"`, `"\ud800"`, 1): api.ErrForm, strings.Replace(leastText, `"p"`, `'p'`, 1): api.ErrForm,
		`{"pools":01}`: api.ErrForm, `{"maxhead":` + strings.Repeat("1", 65) + `}`: api.ErrForm,
		strings.Repeat("[", 33) + strings.Repeat("]", 33): api.ErrDepth, `{"x":` + strings.Repeat("[", 32): api.ErrDepth, `{"pools":` + strings.Repeat(`{"a":`, 40): api.ErrDepth,
		`{"x":1,"x":2}`: api.ErrTwice, `{"pools":[],"pools":[]}`: api.ErrTwice, `{"pools":[],"\u0070ools":[]}`: api.ErrTwice,
		strings.Repeat(" ", api.MaxJSON+1): api.ErrLong, leastText + strings.Repeat(" ", api.MaxJSON+1-len(leastText)): api.ErrLong, strings.Repeat("[", api.MaxJSON+1): api.ErrLong,
	} {
		checkText(t, text, api.Config{}, "", want)
	}
	checkText(t, leastText+strings.Repeat(" ", api.MaxJSON-len(leastText)), least(), "", nil)
}

// CF1: what layer 6 does not take comes ahead of all that is wrong in the text.
func TestJSONComesFirst(t *testing.T) {
	for _, text := range []string{`{"x":1,"pools":null,`, `{"keys":null]`, `[] `, `null`} {
		_, _, want := ofParse(text)
		checkText(t, text, api.Config{}, "", want)
	}
	checkText(t, `{"keys":null,"pools":{},"x":1,"x":2}`, api.Config{}, "", api.ErrTwice)
	checkText(t, `{"keys":null,"pools":{"a":1,"a":2}}`, api.Config{}, "", api.ErrTwice)
	checkText(t, `{"keys":null,"pools":[1,]}`, api.Config{}, "", api.ErrForm)
}

// CF1: JSON that is no object is wrong at the empty place.
func TestNoObject(t *testing.T) {
	for _, text := range []string{"null", "true", "false", "0", "1", "-1.5", `""`, `"x"`, "[]", "[{}]", "[" + leastText + "]", " null "} {
		checkWrong(t, text, "")
	}
	checkWrong(t, "{}", "pools")
	checkWrong(t, `{"":1}`, "")
}

// taken is what becomes of full where a name is missing.
var taken = map[string]func(c *api.Config){
	"keys":                      func(c *api.Config) { c.Keys = nil },
	"pools.1.backends.1.weight": func(c *api.Config) { c.Pools[1].Backends[1].Weight = 1 },
	"pools.1.policy":            func(c *api.Config) { c.Pools[1].Policy = api.PolicyTurns },
	"pools.1.retries":           func(c *api.Config) { c.Pools[1].Retries = 0 },
	"pools.1.timeout":           func(c *api.Config) { c.Pools[1].Timeout = 30 },
	"pools.1.breaker":           func(c *api.Config) { c.Pools[1].Breaker = api.Breaker{} },
	"pools.1.probe":             func(c *api.Config) { c.Pools[1].Probe = api.Probe{} },
	"routes.1.methods":          func(c *api.Config) { c.Routes[1].Methods = nil },
	"routes.1.auth.issuer":      func(c *api.Config) { c.Routes[1].Auth.Issuer = "" },
	"routes.1.auth.audience":    func(c *api.Config) { c.Routes[1].Auth.Audience = "" },
	"routes.1.auth.scopes":      func(c *api.Config) { c.Routes[1].Auth.Scopes = nil },
	"routes.1.auth.leeway":      func(c *api.Config) { c.Routes[1].Auth.Leeway = 0 },
	"routes.1.limit":            func(c *api.Config) { c.Routes[1].Limit = api.Limit{} },
	"maxhead":                   func(c *api.Config) { c.MaxHead = 8192 },
	"maxbody":                   func(c *api.Config) { c.MaxBody = 65536 },
	"maxconns":                  func(c *api.Config) { c.MaxConns = 64 },
	"idle":                      func(c *api.Config) { c.Idle = 60 },
	"header":                    func(c *api.Config) { c.Header = 10 },
}

// needed are the names of a second element, or of the whole, without which there is no text.
var needed = []string{
	"keys.1.id", "keys.1.secret", "pools", "pools.1.name", "pools.1.backends", "pools.1.backends.1.addr", "pools.1.breaker.fails", "pools.1.breaker.open",
	"pools.1.probe.path", "pools.1.probe.every", "pools.1.probe.timeout", "pools.1.probe.rise", "pools.1.probe.fall",
	"routes", "routes.1.host", "routes.1.path", "routes.1.pool", "routes.1.limit.by", "routes.1.limit.rate", "routes.1.limit.per", "routes.1.limit.burst",
}

// CF1: each name missing in turn.
func TestEachNameMissing(t *testing.T) {
	gone := 0
	for _, place := range placesOf(tree(t, fullText), "") {
		last := place[strings.LastIndex(place, ".")+1:]
		if place == "" || strings.Contains(place, ".0") || last == "1" || place == "routes.1.auth" {
			continue
		}
		v := tree(t, fullText)
		cut(v, place)
		change, may := taken[place]
		switch {
		case may:
			checkText(t, written(t, v), changed(full(), change), "", nil)
		case slices.Contains(needed, place):
			checkWrong(t, written(t, v), place)
		default:
			t.Errorf("nothing is said of %s", place)
		}
		gone++
	}
	if gone != len(taken)+len(needed) {
		t.Errorf("%d names", gone)
	}
	// Without auth nobody is known whose subject could be counted.
	v := tree(t, fullText)
	cut(v, "routes.1.auth")
	checkWrong(t, written(t, v), "routes.1.limit.by")
	cut(v, "routes.0.auth")
	cut(v, "routes.1.limit")
	checkText(t, written(t, v), changed(full(), func(c *api.Config) {
		c.Routes[0].Auth, c.Routes[1].Auth, c.Routes[1].Limit = api.Auth{}, api.Auth{}, api.Limit{}
	}), "", nil)
}

// CF1: several names missing at once, in objects that are empty otherwise.
func TestEmptyObjects(t *testing.T) {
	for place, want := range map[string]string{
		"": "pools", "keys.0": "keys.0.id", "keys.1": "keys.1.id", "pools.0": "pools.0.name", "pools.1": "pools.1.name", "pools.0.backends.0": "pools.0.backends.0.addr", "pools.1.backends.1": "pools.1.backends.1.addr",
		"pools.0.breaker": "pools.0.breaker.fails", "pools.1.probe": "pools.1.probe.path", "routes.0": "routes.0.host", "routes.1": "routes.1.host", "routes.0.limit": "routes.0.limit.by",
	} {
		v := tree(t, fullText)
		*spot(v, place) = value("{}")
		checkWrong(t, written(t, v), want)
	}
	v := tree(t, fullText)
	*spot(v, "routes.1.auth") = value("{}")
	checkText(t, written(t, v), changed(full(), func(c *api.Config) { c.Routes[1].Auth = api.Auth{On: true} }), "", nil)
}

// CF1: each value of each other kind in turn; a null is a value of another kind also where a name may be missing.
func TestEachKind(t *testing.T) {
	kinds := []string{"null", "true", "false", "7", "-1", "1.5", `""`, `"x"`, `"7"`, `"null"`, "[]", "[7]", `["x"]`, "[null]", "[{}]", "[[]]", "{}", `{"x":7}`}
	asked := 0
	for _, place := range placesOf(tree(t, fullText), "") {
		for _, text := range kinds {
			v := tree(t, fullText)
			at, x := spot(v, place), value(text)
			if at.Kind == x.Kind {
				continue
			}
			*at = x
			checkWrong(t, written(t, v), place)
			asked++
		}
	}
	if asked < 1200 {
		t.Errorf("only %d were asked", asked)
	}
}

// CF1: lists that hold what is of another kind, ahead of, between and behind what may stand there: the first such value is told by its own place.
func TestListsOfOtherKinds(t *testing.T) {
	for _, list := range []string{"routes.0.methods", "routes.1.methods", "routes.0.auth.scopes", "routes.1.auth.scopes"} {
		for _, c := range []struct {
			text  string
			first int
		}{
			{`[1]`, 0}, {`[null]`, 0}, {`[[]]`, 0}, {`["A",1]`, 1}, {`[true,"A"]`, 0}, {`["A",{},"B"]`, 1}, {`["A",["B"]]`, 1}, {`["A","B",null,7,"C",{}]`, 2}, {`[{},"A",1]`, 0},
			// What the texts may not be is told behind the kinds.
			{`["",1]`, 1}, {`["a b","A",false]`, 2}, {`["A","A",[]]`, 2}, {"[" + strings.Repeat(`"A",`, 40) + "null]", 40},
		} {
			v := tree(t, fullText)
			*spot(v, list) = value(c.text)
			checkWrong(t, written(t, v), behind(list, c.first))
		}
		// The list's own place is told where it is of another kind itself, or by Valid of its texts.
		for _, text := range []string{`1`, `null`, `"A"`, `{}`, `{"0":1}`, `{"0":"A"}`, `[""]`, `["A","a b"]`, `["A","B","A"]`} {
			v := tree(t, fullText)
			*spot(v, list) = value(text)
			checkWrong(t, written(t, v), list)
		}
	}
	for list, n := range map[string]int{"keys": 2, "pools": 2, "routes": 2, "pools.1.backends": 2} {
		for _, text := range []string{"null", "1", `"x"`, "[]", "true"} {
			v := tree(t, fullText)
			at := spot(v, list)
			at.List = append(at.List, value(text))
			checkWrong(t, written(t, v), behind(list, n))
		}
	}
}

// numbersOf are the places of a text's numbers.
func numbersOf(t *testing.T) []string {
	var l []string
	v := tree(t, fullText)
	for _, place := range placesOf(v, "") {
		if spot(v, place).Kind == api.JSONNumber {
			l = append(l, place)
		}
	}
	return l
}

// CF1: numbers with a fraction or an exponent, or beyond what an int holds, are of another form; those below 0 are told by Valid.
func TestNumbers(t *testing.T) {
	l := numbersOf(t)
	if len(l) != 33 {
		t.Errorf("%d numbers", len(l))
	}
	for i, place := range l {
		for _, text := range []string{"1.5", "1.0", "0.0", "-0.0", "1e0", "1E0", "2e1", "1e-1", "9223372036854775808", "-9223372036854775809", "1e400", strings.Repeat("9", 64)} {
			v := tree(t, fullText)
			*spot(v, place) = value(text)
			checkWrong(t, written(t, v), place)
		}
		for _, text := range []string{"-1", "9223372036854775807", "-9223372036854775808", "1048577"} {
			v := tree(t, fullText)
			*spot(v, place) = value(text)
			checkWrong(t, written(t, v), place)
			if i < len(l)-1 {
				*spot(v, l[len(l)-1]) = value("1.5")
				checkWrong(t, written(t, v), l[len(l)-1])
			}
		}
	}
	v := tree(t, fullText)
	*spot(v, "pools.0.retries"), *spot(v, "maxbody") = value("-0"), value("-0")
	checkText(t, written(t, v), changed(full(), func(c *api.Config) { c.Pools[0].Retries, c.MaxBody = 0, 0 }), "", nil)
}

// CF1: a name that may not stand there is told by its object's place, ahead of what is wrong in the object, and behind what is wrong ahead of the object.
func TestOtherNames(t *testing.T) {
	names := []string{
		"x", "", "Keys", "POOLS", " id", "id ", "a.b", "0", "keys", "id", "secret", "pools", "name", "backends", "addr", "weight", "policy", "retries", "timeout", "breaker", "fails", "open", "probe", "path",
		"every", "rise", "fall", "routes", "host", "methods", "pool", "auth", "issuer", "audience", "scopes", "leeway", "limit", "by", "rate", "per", "burst", "maxhead", "maxbody", "maxconns", "idle", "header", "on", "On",
	}
	objects := 0
	for _, place := range placesOf(tree(t, fullText), "") {
		at := spot(tree(t, fullText), place)
		if at.Kind != api.JSONObject {
			continue
		}
		objects++
		for _, name := range names {
			if slices.Contains(at.Names, name) {
				continue
			}
			for _, text := range []string{"null", "1", "{}"} {
				v := tree(t, fullText)
				lay(spot(v, place), name, value(text))
				checkWrong(t, written(t, v), place)
				// What stands in the object is asked behind its names.
				for i := range at.List {
					*spot(v, behind(place, at.Names[i])) = value("[null]")
				}
				checkWrong(t, written(t, v), place)
				// The name may stand ahead of all others.
				o := spot(v, place)
				slices.Reverse(o.Names)
				slices.Reverse(o.List)
				checkWrong(t, written(t, v), place)
			}
		}
		for i, name := range at.Names {
			v := tree(t, fullText)
			spot(v, place).Names[i] = strings.ToUpper(name)
			checkWrong(t, written(t, v), place)
		}
	}
	if objects != 19 {
		t.Errorf("%d objects", objects)
	}
	// What is wrong ahead of an object goes ahead of its names.
	v := tree(t, fullText)
	lay(spot(v, "pools.1"), "x", value("1"))
	*spot(v, "pools.0.probe.fall") = value("null")
	checkWrong(t, written(t, v), "pools.0.probe.fall")
	v = tree(t, fullText)
	lay(spot(v, "pools.0"), "x", value("1"))
	lay(spot(v, "pools.0.breaker"), "x", value("1"))
	lay(spot(v, "keys.1"), "x", value("1"))
	checkWrong(t, written(t, v), "keys.1")
}

// CF1: a name that is there twice is layer 6's error, wherever it stands.
func TestNamesTwice(t *testing.T) {
	for _, pair := range []string{
		`"id":"k0"`, `"secret":"QQ"`, `"name":"p0"`, `"addr":"a:80"`, `"weight":2`, `"policy":"hash"`, `"retries":4`, `"fails":6`, `"open":7`, `"path":"/h"`, `"every":8`, `"rise":9`,
		`"host":"x"`, `"pool":"p1"`, `"issuer":"i0"`, `"leeway":19`, `"by":"client"`, `"rate":20`, `"maxhead":100`, `"header":50`,
	} {
		text := strings.Replace(fullText, pair, pair+","+pair, 1)
		if text == fullText {
			t.Fatal(pair)
		}
		checkText(t, text, api.Config{}, "", api.ErrTwice)
	}
}

// CF1: names may stand in any order; what is told first does not hang on it.
func TestNamesInAnyOrder(t *testing.T) {
	r := rand.New(rand.NewSource(1))
	places := placesOf(tree(t, fullText), "")
	for range 300 {
		v := tree(t, fullText)
		for _, place := range places {
			// The objects are found by names, so they may be mixed while they are gone over.
			if o := spot(v, place); o.Kind == api.JSONObject {
				r.Shuffle(len(o.Names), func(i, k int) {
					o.Names[i], o.Names[k] = o.Names[k], o.Names[i]
					o.List[i], o.List[k] = o.List[k], o.List[i]
				})
			}
		}
		checkText(t, written(t, v), full(), "", nil)
		i, k := r.Intn(len(places)), r.Intn(len(places))
		*spot(v, places[max(i, k)]) = value("null")
		*spot(v, places[min(i, k)]) = value("null")
		checkWrong(t, written(t, v), places[min(i, k)])
	}
}

// spoil makes the text wrong at a place: an object by a name, all else by its kind.
func spoil(v *api.Value, place string) {
	at := spot(v, place)
	if at.Kind == api.JSONObject {
		lay(at, "other", value("1"))
		return
	}
	*at = value("null")
}

// CF1: of each two places at which a text is wrong the first one in the text's order is told.
func TestOrderOfForms(t *testing.T) {
	places := placesOf(tree(t, fullText), "")
	for i, first := range places {
		for _, second := range places[i+1:] {
			v := tree(t, fullText)
			spoil(v, second)
			spoil(v, first)
			checkWrong(t, written(t, v), first)
		}
	}
}

// CF1: the order is as the chapter writes it down.
func TestOrderWrittenDown(t *testing.T) {
	want := []string{
		"", "keys", "keys.0", "keys.0.id", "keys.0.secret", "keys.1", "keys.1.id", "keys.1.secret",
		"pools", "pools.0", "pools.0.name", "pools.0.backends", "pools.0.backends.0", "pools.0.backends.0.addr", "pools.0.backends.0.weight", "pools.0.backends.1", "pools.0.backends.1.addr", "pools.0.backends.1.weight",
		"pools.0.policy", "pools.0.retries", "pools.0.timeout", "pools.0.breaker", "pools.0.breaker.fails", "pools.0.breaker.open",
		"pools.0.probe", "pools.0.probe.path", "pools.0.probe.every", "pools.0.probe.timeout", "pools.0.probe.rise", "pools.0.probe.fall",
		"pools.1", "pools.1.name",
		"routes", "routes.0", "routes.0.host", "routes.0.path", "routes.0.methods", "routes.0.methods.0", "routes.0.methods.1", "routes.0.pool",
		"routes.0.auth", "routes.0.auth.issuer", "routes.0.auth.audience", "routes.0.auth.scopes", "routes.0.auth.scopes.0", "routes.0.auth.scopes.1", "routes.0.auth.leeway",
		"routes.0.limit", "routes.0.limit.by", "routes.0.limit.rate", "routes.0.limit.per", "routes.0.limit.burst", "routes.1", "routes.1.host",
		"maxhead", "maxbody", "maxconns", "idle", "header",
	}
	for i, first := range want {
		for _, second := range want[i+1:] {
			v := tree(t, fullText)
			spoil(v, second)
			spoil(v, first)
			checkWrong(t, written(t, v), first)
		}
	}
}

// CF1: what is of another form goes ahead of all that Valid tells, wherever both stand.
func TestFormsGoAheadOfValid(t *testing.T) {
	wrong := map[string]string{"keys.0.id": `""`, "pools.0.name": `""`, "pools.1.backends": "[]", "pools.0.timeout": "0", "routes.0.pool": `"no"`, "routes.1.limit.rate": "0", "maxhead": "63", "header": "0"}
	for _, place := range placesOf(tree(t, fullText), "") {
		for at, text := range wrong {
			if place == at || strings.HasPrefix(place, at+".") {
				continue
			}
			v := tree(t, fullText)
			*spot(v, at) = value(text)
			checkWrong(t, written(t, v), at)
			spoil(v, place)
			checkWrong(t, written(t, v), place)
		}
	}
	for at, text := range map[string]string{"keys.1.secret": `"Q"`, "pools.1.policy": `"x"`, "routes.1.limit.by": `"x"`, "idle": "1.0"} {
		v := tree(t, fullText)
		*spot(v, at) = value(text)
		*spot(v, "keys.0.id") = value(`""`)
		checkWrong(t, written(t, v), at)
	}
}

// CF1: a policy is one of two words, whom a limit counts by too.
func TestWords(t *testing.T) {
	for _, place := range []string{"pools.1.policy", "routes.1.limit.by"} {
		for _, text := range []string{"", " ", "x", "Turns", "TURNS", "turn", "turnss", "turns ", " turns", "Hash", "hash\n", "none", "None", "0", "1", "2", "Client", "client ", "Subject", "subjects", "sub", "é", "ByClient", "PolicyHash", "\x00"} {
			v := tree(t, fullText)
			spot(v, place).Text = text
			checkWrong(t, written(t, v), place)
		}
	}
	for word, policy := range map[string]int{"turns": api.PolicyTurns, "hash": api.PolicyHash} {
		v := tree(t, fullText)
		spot(v, "pools.1.policy").Text = word
		checkText(t, written(t, v), changed(full(), func(c *api.Config) { c.Pools[1].Policy = policy }), "", nil)
		spot(v, "routes.1.limit.by").Text = word
		checkWrong(t, written(t, v), "routes.1.limit.by")
	}
	for word, by := range map[string]int{"client": api.ByClient, "subject": api.BySubject} {
		v := tree(t, fullText)
		spot(v, "routes.1.limit.by").Text = word
		checkText(t, written(t, v), changed(full(), func(c *api.Config) { c.Routes[1].Limit.By = by }), "", nil)
		spot(v, "pools.1.policy").Text = word
		checkWrong(t, written(t, v), "pools.1.policy")
	}
}

// CF1, CF2: a secret is base64url without padding, of 1 to 256 bytes.
func TestSecretTexts(t *testing.T) {
	for text, secret := range map[string]string{"QQ": "A", "AA": "\x00", "_w": "\xff", "-_8": "\xfb\xff", "bGlnaHQgdw": "light w", secretText(256): strings.Repeat("\xfb", 256), secretText(255): strings.Repeat("\xfb", 255)} {
		v := tree(t, fullText)
		spot(v, "keys.1.secret").Text = text
		checkText(t, written(t, v), changed(full(), func(c *api.Config) { c.Keys[1].Secret = secret }), "", nil)
	}
	for _, text := range []string{"", "Q", "QR", "QQ=", "QQ==", "QQQQQ", "+w", "/w", "QQ\n", " QQ", "Q Q", "é", "QQ.QQ", "*", "\x00", "AB", "AAB", secretText(257), secretText(258), secretText(100000)} {
		v := tree(t, fullText)
		spot(v, "keys.1.secret").Text = text
		checkWrong(t, written(t, v), "keys.1.secret")
	}
	// That it is no base64url is its form, that it is too short or too long is told by Valid.
	for text, form := range map[string]bool{"": false, secretText(257): false, "QR": true, "QQ==": true} {
		v := tree(t, fullText)
		spot(v, "keys.0.secret").Text = text
		*spot(v, "header") = value("null")
		want := "header"
		if form {
			want = "keys.0.secret"
		}
		checkWrong(t, written(t, v), want)
	}
}

// CF1: lists that are far too long are read to their end, and told by Valid.
func TestLongLists(t *testing.T) {
	many := func(one string, n int) string { return "[" + strings.TrimSuffix(strings.Repeat(one+",", n), ",") + "]" }
	for place, text := range map[string]string{
		"keys": many(`{"id":"k","secret":"QQ"}`, 20000), "pools": many(`{"name":"p","backends":[{"addr":"a:1"}]}`, 15000), "routes": many(`{"host":"","path":"/","pool":"p0"}`, 15000),
		"pools.0.backends": many(`{"addr":"a:1"}`, 40000), "routes.0.methods": many(`"GET"`, 100000), "routes.1.auth.scopes": many(`"GET"`, 100000),
	} {
		v := tree(t, fullText)
		*spot(v, place) = value(text)
		checkWrong(t, written(t, v), place)
		*spot(v, "header") = value(`""`)
		checkWrong(t, written(t, v), "header")
	}
}
