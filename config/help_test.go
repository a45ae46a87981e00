package config

import (
	"bytes"
	"encoding/base64"
	stdjson "encoding/json"
	"fmt"
	"math/big"
	"reflect"
	"regexp"
	"slices"
	"strconv"
	"strings"
	"testing"
	"turnstile/api"
	"turnstile/host"
	"turnstile/json"
	"turnstile/target"
	"turnstile/trie"
	"unicode/utf8"
)

// The forms, written down a second time.
var (
	tokenForm   = regexp.MustCompile("^[0-9A-Za-z!#$%&'*+.^_`|~-]+$")
	addrForm    = regexp.MustCompile(`^[0-9A-Za-z._-]+:([0-9]+)$`)
	visibleForm = regexp.MustCompile(`^/[!-~]*$`)
)

func ofToken(s string, most int) bool { return len(s) <= most && tokenForm.MatchString(s) }

// ofTokens tells whether texts are at most 16 tokens, none twice.
func ofTokens(l []string, most int) bool {
	there := map[string]int{}
	for _, s := range l {
		if there[s]++; there[s] > 1 || !ofToken(s, most) {
			return false
		}
	}
	return len(l) <= 16
}

func ofAddr(s string) bool {
	l := addrForm.FindStringSubmatch(s)
	if l == nil || len(s) > 128 {
		return false
	}
	port, _ := new(big.Int).SetString(l[1], 10)
	return port.Cmp(big.NewInt(65535)) <= 0
}

func ofProbePath(s string) bool {
	_, err := target.Normal(s)
	return visibleForm.MatchString(s) && len(s) <= 256 && err == nil
}

// asked is a place of a configuration, and whether what stands there may be.
type asked struct {
	place string
	fine  bool
}

// joined is a place of its steps.
func joined(steps ...any) string {
	var l []string
	for _, s := range steps {
		l = append(l, fmt.Sprint(s))
	}
	return strings.Join(l, ".")
}

// ofPlaces are all places of a configuration in the order of CF2.
func ofPlaces(c api.Config) []asked {
	var l []asked
	ask := func(fine bool, steps ...any) { l = append(l, asked{joined(steps...), fine}) }
	names := map[string]bool{}
	unlike := func(kind any, name string) bool {
		s := fmt.Sprintf("%v %s", kind, name)
		was := names[s]
		names[s] = true
		return !was
	}
	count := func(n, low, high int, steps ...any) { ask(low <= n && n <= high, steps...) }
	count(len(c.Keys), 0, 16, "keys")
	for i, k := range c.Keys {
		ask(unlike("key", k.ID) && ofToken(k.ID, 64), "keys", i, "id")
		count(len(k.Secret), 1, 256, "keys", i, "secret")
	}
	count(len(c.Pools), 1, 32, "pools")
	for i, p := range c.Pools {
		ask(unlike("pool", p.Name) && ofToken(p.Name, 64), "pools", i, "name")
		count(len(p.Backends), 1, 32, "pools", i, "backends")
		for j, b := range p.Backends {
			ask(unlike(i, b.Addr) && ofAddr(b.Addr), "pools", i, "backends", j, "addr")
			count(b.Weight, 1, 256, "pools", i, "backends", j, "weight")
		}
		ask(p.Policy == 1 || p.Policy == 2, "pools", i, "policy")
		count(p.Retries, 0, 8, "pools", i, "retries")
		count(p.Timeout, 1, 1048576, "pools", i, "timeout")
		count(p.Breaker.Fails, 0, 1000, "pools", i, "breaker", "fails")
		if p.Breaker.Fails == 0 {
			ask(p.Breaker.Open == 0, "pools", i, "breaker", "open")
		} else {
			count(p.Breaker.Open, 1, 1048576, "pools", i, "breaker", "open")
		}
		count(p.Probe.Every, 0, 1048576, "pools", i, "probe", "every")
		if p.Probe.Every == 0 {
			ask(p.Probe.Path == "", "pools", i, "probe", "path")
			ask(p.Probe.Timeout == 0, "pools", i, "probe", "timeout")
			ask(p.Probe.Rise == 0, "pools", i, "probe", "rise")
			ask(p.Probe.Fall == 0, "pools", i, "probe", "fall")
		} else {
			ask(ofProbePath(p.Probe.Path), "pools", i, "probe", "path")
			count(p.Probe.Timeout, 1, p.Probe.Every, "pools", i, "probe", "timeout")
			count(p.Probe.Rise, 1, 100, "pools", i, "probe", "rise")
			count(p.Probe.Fall, 1, 100, "pools", i, "probe", "fall")
		}
	}
	count(len(c.Routes), 1, 64, "routes")
	for i, r := range c.Routes {
		l = append(l, ofRoute(c, r, "routes."+strconv.Itoa(i))...)
	}
	count(c.MaxHead, 64, 65536, "maxhead")
	count(c.MaxBody, 0, 1048576, "maxbody")
	count(c.MaxConns, 1, 64, "maxconns")
	count(c.Idle, 1, 1048576, "idle")
	count(c.Header, 1, 1048576, "header")
	return l
}

// ofRoute are the places of one route.
func ofRoute(c api.Config, r api.Route, at string) []asked {
	var l []asked
	ask := func(fine bool, name string) { l = append(l, asked{at + "." + name, fine}) }
	ask(host.Check(r.Host) == nil, "host")
	ask(trie.Check(r.Path) == nil, "path")
	ask(ofTokens(r.Methods, 32), "methods")
	ask(slices.ContainsFunc(c.Pools, func(p api.Pool) bool { return p.Name == r.Pool }), "pool")
	claim := func(s string) bool { return s == "" || r.Auth.On && len(s) <= 256 && utf8.ValidString(s) }
	ask(claim(r.Auth.Issuer), "auth.issuer")
	ask(claim(r.Auth.Audience), "auth.audience")
	ask(len(r.Auth.Scopes) == 0 || r.Auth.On && ofTokens(r.Auth.Scopes, 64), "auth.scopes")
	ask(r.Auth.Leeway == 0 || r.Auth.On && 0 <= r.Auth.Leeway && r.Auth.Leeway <= 1048576, "auth.leeway")
	ask(r.Limit.By == 0 || r.Limit.By == 1 || r.Limit.By == 2 && r.Auth.On, "limit.by")
	count := func(n int) bool { return n == 0 && r.Limit.By == 0 || r.Limit.By != 0 && 1 <= n && n <= 1048576 }
	ask(count(r.Limit.Rate), "limit.rate")
	ask(count(r.Limit.Per), "limit.per")
	ask(count(r.Limit.Burst), "limit.burst")
	return l
}

// ofValid is the place that Valid is to answer.
func ofValid(c api.Config) string {
	for _, a := range ofPlaces(c) {
		if !a.fine {
			return a.place
		}
	}
	return ""
}

// part is a name of an object with its value's text; it may be left out.
type part struct {
	name, text string
	out        bool
}

func objectText(all bool, parts ...part) string {
	var l []string
	for _, p := range parts {
		if !p.out || all && p.text != "" {
			l = append(l, `"`+p.name+`":`+p.text)
		}
	}
	return "{" + strings.Join(l, ",") + "}"
}

func listText[T any](l []T, one func(T) string) string {
	var texts []string
	for _, x := range l {
		texts = append(texts, one(x))
	}
	return "[" + strings.Join(texts, ",") + "]"
}

func quoted(s string) string {
	q, err := json.Quote(s)
	if err != nil {
		return "?"
	}
	return q
}

// ofText is a configuration as a text, whether it may be or not; with all its names, or without those that are in brackets and have the value that is taken for them.
func ofText(c api.Config, all bool) string {
	num := strconv.Itoa
	keys := listText(c.Keys, func(k api.Key) string {
		return objectText(all, part{"id", quoted(k.ID), false}, part{"secret", `"` + base64.RawURLEncoding.EncodeToString([]byte(k.Secret)) + `"`, false})
	})
	pools := listText(c.Pools, func(p api.Pool) string { return poolText(p, all) })
	routes := listText(c.Routes, func(r api.Route) string { return routeText(r, all) })
	return objectText(all, part{"keys", keys, len(c.Keys) == 0}, part{"pools", pools, false}, part{"routes", routes, false},
		part{"maxhead", num(c.MaxHead), c.MaxHead == 8192}, part{"maxbody", num(c.MaxBody), c.MaxBody == 65536}, part{"maxconns", num(c.MaxConns), c.MaxConns == 64},
		part{"idle", num(c.Idle), c.Idle == 60}, part{"header", num(c.Header), c.Header == 10})
}

func poolText(p api.Pool, all bool) string {
	num := strconv.Itoa
	backends := listText(p.Backends, func(b api.Backend) string {
		return objectText(all, part{"addr", quoted(b.Addr), false}, part{"weight", num(b.Weight), b.Weight == 1})
	})
	policy := map[int]string{1: `"turns"`, 2: `"hash"`}[p.Policy]
	breaker := objectText(all, part{"fails", num(p.Breaker.Fails), false}, part{"open", num(p.Breaker.Open), false})
	probe := objectText(all, part{"path", quoted(p.Probe.Path), false}, part{"every", num(p.Probe.Every), false}, part{"timeout", num(p.Probe.Timeout), false},
		part{"rise", num(p.Probe.Rise), false}, part{"fall", num(p.Probe.Fall), false})
	return objectText(all, part{"name", quoted(p.Name), false}, part{"backends", backends, false}, part{"policy", policy, p.Policy == 1},
		part{"retries", num(p.Retries), p.Retries == 0}, part{"timeout", num(p.Timeout), p.Timeout == 30},
		part{"breaker", breaker, p.Breaker.Fails == 0 && p.Breaker.Open == 0},
		part{"probe", probe, p.Probe.Path == "" && p.Probe.Every == 0 && p.Probe.Timeout == 0 && p.Probe.Rise == 0 && p.Probe.Fall == 0})
}

func routeText(r api.Route, all bool) string {
	num := strconv.Itoa
	var auth, limit string
	if r.Auth.On {
		auth = objectText(all, part{"issuer", quoted(r.Auth.Issuer), r.Auth.Issuer == ""}, part{"audience", quoted(r.Auth.Audience), r.Auth.Audience == ""},
			part{"scopes", listText(r.Auth.Scopes, quoted), len(r.Auth.Scopes) == 0}, part{"leeway", num(r.Auth.Leeway), r.Auth.Leeway == 0})
	}
	if r.Limit.By != 0 {
		by := map[int]string{1: `"client"`, 2: `"subject"`}[r.Limit.By]
		limit = objectText(all, part{"by", by, false}, part{"rate", num(r.Limit.Rate), false}, part{"per", num(r.Limit.Per), false}, part{"burst", num(r.Limit.Burst), false})
	}
	return objectText(all, part{"host", quoted(r.Host), false}, part{"path", quoted(r.Path), false}, part{"methods", listText(r.Methods, quoted), len(r.Methods) == 0},
		part{"pool", quoted(r.Pool), false}, part{"auth", auth, auth == ""}, part{"limit", limit, limit == ""})
}

// told tells whether a text can tell a configuration, whether it may be or not.
func told(c api.Config) bool {
	for _, v := range leaves(reflect.ValueOf(&c).Elem()) {
		if v.Kind() == reflect.String && !utf8.ValidString(v.String()) {
			return slices.ContainsFunc(c.Keys, func(k api.Key) bool { return k.Secret == v.String() }) && told(withoutSecrets(c))
		}
	}
	for _, p := range c.Pools {
		if p.Policy != 1 && p.Policy != 2 {
			return false
		}
	}
	for _, r := range c.Routes {
		if r.Limit.By < 0 || r.Limit.By > 2 || r.Limit.By == 0 && r.Limit != (api.Limit{}) {
			return false
		}
		if a := r.Auth; !a.On && (a.Issuer != "" || a.Audience != "" || len(a.Scopes) > 0 || a.Leeway != 0) {
			return false
		}
	}
	return true
}

// withoutSecrets leaves out what may be any bytes.
func withoutSecrets(c api.Config) api.Config {
	c = copyOf(c)
	for i := range c.Keys {
		c.Keys[i].Secret = ""
	}
	return c
}

// shape is what a value of the text is to be.
type shape struct {
	kind  int
	form  func(v api.Value) bool // nil: any
	one   *shape                 // of a list's values
	names []named                // of an object
}

type named struct {
	name string
	may  bool // be missing
	is   shape
}

// theText is the shape of the whole.
func theText() shape {
	text, number := shape{kind: api.JSONText}, shape{kind: api.JSONNumber, form: func(v api.Value) bool { return v.Whole }}
	texts := shape{kind: api.JSONList, one: &text}
	secret := shape{kind: api.JSONText, form: func(v api.Value) bool {
		_, err := base64.RawURLEncoding.Strict().DecodeString(v.Text)
		return err == nil && !strings.ContainsAny(v.Text, "\r\n")
	}}
	word := func(words ...string) shape {
		return shape{kind: api.JSONText, form: func(v api.Value) bool { return slices.Contains(words, v.Text) }}
	}
	object := func(l ...named) shape { return shape{kind: api.JSONObject, names: l} }
	list := func(l ...named) shape {
		one := object(l...)
		return shape{kind: api.JSONList, one: &one}
	}
	key := list(named{"id", false, text}, named{"secret", false, secret})
	backend := list(named{"addr", false, text}, named{"weight", true, number})
	breaker := object(named{"fails", false, number}, named{"open", false, number})
	probe := object(named{"path", false, text}, named{"every", false, number}, named{"timeout", false, number}, named{"rise", false, number}, named{"fall", false, number})
	pool := list(named{"name", false, text}, named{"backends", false, backend}, named{"policy", true, word("turns", "hash")}, named{"retries", true, number}, named{"timeout", true, number},
		named{"breaker", true, breaker}, named{"probe", true, probe})
	auth := object(named{"issuer", true, text}, named{"audience", true, text}, named{"scopes", true, texts}, named{"leeway", true, number})
	limit := object(named{"by", false, word("client", "subject")}, named{"rate", false, number}, named{"per", false, number}, named{"burst", false, number})
	route := list(named{"host", false, text}, named{"path", false, text}, named{"methods", true, texts}, named{"pool", false, text}, named{"auth", true, auth}, named{"limit", true, limit})
	return object(named{"keys", true, key}, named{"pools", false, pool}, named{"routes", false, route},
		named{"maxhead", true, number}, named{"maxbody", true, number}, named{"maxconns", true, number}, named{"idle", true, number}, named{"header", true, number})
}

// behind is a place one step further.
func behind(place string, step any) string {
	if place == "" {
		return fmt.Sprint(step)
	}
	return place + "." + fmt.Sprint(step)
}

// ofShape is the first place at which a value is not of a shape, and whether there is one.
func ofShape(v api.Value, s shape, place string) (string, bool) {
	if v.Kind != s.kind || s.form != nil && !s.form(v) {
		return place, true
	}
	if s.kind == api.JSONObject {
		for _, name := range v.Names {
			if !slices.ContainsFunc(s.names, func(n named) bool { return n.name == name }) {
				return place, true
			}
		}
	}
	for _, n := range s.names {
		i := slices.Index(v.Names, n.name)
		if i < 0 {
			if n.may {
				continue
			}
			return behind(place, n.name), true
		}
		if at, wrong := ofShape(v.List[i], n.is, behind(place, n.name)); wrong {
			return at, true
		}
	}
	if s.one != nil {
		for i, x := range v.List {
			if at, wrong := ofShape(x, *s.one, behind(place, i)); wrong {
				return at, true
			}
		}
	}
	return "", false
}

// The parts as the library reads them, with what is taken for missing names.
type (
	readConfig struct {
		Keys                                     []api.Key
		Pools                                    []readPool
		Routes                                   []readRoute
		MaxHead, MaxBody, MaxConns, Idle, Header int
	}
	readPool struct {
		Name             string
		Backends         []readBackend
		Policy           string
		Retries, Timeout int
		Breaker          api.Breaker
		Probe            api.Probe
	}
	readBackend api.Backend
	readRoute   struct {
		Host, Path string
		Methods    []string
		Pool       string
		Auth       *api.Auth
		Limit      struct {
			By               string
			Rate, Per, Burst int
		}
	}
)

func (p *readPool) UnmarshalJSON(b []byte) error {
	type plain readPool
	q := plain{Policy: "turns", Timeout: 30}
	err := stdjson.Unmarshal(b, &q)
	*p = readPool(q)
	return err
}

func (p *readBackend) UnmarshalJSON(b []byte) error {
	q := api.Backend{Weight: 1}
	err := stdjson.Unmarshal(b, &q)
	*p = readBackend(q)
	return err
}

// ofRead is the configuration that a text of the right shape tells.
func ofRead(text string) api.Config {
	r := readConfig{MaxHead: 8192, MaxBody: 65536, MaxConns: 64, Idle: 60, Header: 10}
	if err := stdjson.Unmarshal([]byte(text), &r); err != nil {
		panic(err)
	}
	c := api.Config{Keys: r.Keys, MaxHead: r.MaxHead, MaxBody: r.MaxBody, MaxConns: r.MaxConns, Idle: r.Idle, Header: r.Header}
	for i, k := range c.Keys {
		b, _ := base64.RawURLEncoding.DecodeString(k.Secret)
		c.Keys[i].Secret = string(b)
	}
	for _, p := range r.Pools {
		q := api.Pool{Name: p.Name, Policy: map[string]int{"turns": 1, "hash": 2}[p.Policy], Retries: p.Retries, Timeout: p.Timeout, Breaker: p.Breaker, Probe: p.Probe}
		for _, b := range p.Backends {
			q.Backends = append(q.Backends, api.Backend(b))
		}
		c.Pools = append(c.Pools, q)
	}
	for _, x := range r.Routes {
		y := api.Route{Host: x.Host, Path: x.Path, Methods: x.Methods, Pool: x.Pool}
		if x.Auth != nil {
			y.Auth = *x.Auth
			y.Auth.On = true
		}
		y.Limit = api.Limit{By: map[string]int{"": 0, "client": 1, "subject": 2}[x.Limit.By], Rate: x.Limit.Rate, Per: x.Limit.Per, Burst: x.Limit.Burst}
		c.Routes = append(c.Routes, y)
	}
	return c
}

// ofParse is what Parse is to answer.
func ofParse(text string) (api.Config, string, error) {
	v, _, err := json.Parse(text)
	if err != nil {
		return api.Config{}, "", err
	}
	if place, wrong := ofShape(v, theText(), ""); wrong {
		return api.Config{}, place, api.ErrConfig
	}
	c := ofRead(text)
	if place := ofValid(c); place != "" {
		return api.Config{}, place, api.ErrConfig
	}
	return c, "", nil
}

// leaves are the fields, however deep, that are no structs: lists and what stands in them, too.
func leaves(v reflect.Value) []reflect.Value {
	var l []reflect.Value
	switch v.Kind() {
	case reflect.Struct:
		for i := range v.NumField() {
			l = append(l, leaves(v.Field(i))...)
		}
	case reflect.Slice:
		l = append(l, v)
		for i := range v.Len() {
			l = append(l, leaves(v.Index(i))...)
		}
	default:
		l = append(l, v)
	}
	return l
}

// copyOf is a configuration in memory of its own, lists of no elements being nil.
func copyOf(c api.Config) api.Config {
	for _, v := range leaves(reflect.ValueOf(&c).Elem()) {
		ownLists(v)
	}
	return c
}

// ownLists gives a list memory of its own, and then those in it.
func ownLists(v reflect.Value) {
	if v.Kind() != reflect.Slice {
		return
	}
	own := reflect.Zero(v.Type())
	if v.Len() > 0 {
		own = reflect.MakeSlice(v.Type(), v.Len(), v.Len())
		reflect.Copy(own, v)
	}
	v.Set(own)
	for i := range v.Len() {
		for _, x := range leaves(v.Index(i)) {
			ownLists(x)
		}
	}
}

// alike tells whether two configurations are the same, lists of no elements being one.
func alike(a, b api.Config) bool { return reflect.DeepEqual(copyOf(a), copyOf(b)) }

// errAt is the error beside a place.
func errAt(place string) error {
	if place == "" {
		return nil
	}
	return api.ErrConfig
}

// checkText asks Parse for a configuration, or a place and an error.
func checkText(t *testing.T, text string, want api.Config, place string, wantErr error) {
	t.Helper()
	if wantErr != nil {
		want = api.Config{}
	}
	got, at, err := Parse(text)
	if at != place || err != wantErr || !alike(got, want) {
		t.Errorf("Parse(%s): %+v, %q, %v, not %+v, %q, %v", short(text), got, at, err, want, place, wantErr)
	}
	if wantErr != nil && !reflect.DeepEqual(got, api.Config{}) {
		t.Errorf("Parse(%s): beside an error %+v", short(text), got)
	}
	got, at, err = ofParse(text)
	if at != place || err != wantErr || !alike(got, want) {
		t.Errorf("the words of Parse(%s): %+v, %q, %v, not %+v, %q, %v", short(text), got, at, err, want, place, wantErr)
	}
}

// checkWrong asks Parse for ErrConfig at a place.
func checkWrong(t *testing.T, text, place string) {
	t.Helper()
	checkText(t, text, api.Config{}, place, api.ErrConfig)
}

// checkPlace asks of a configuration where it is wrong (nowhere, if the place is empty), whoever is asked.
func checkPlace(t *testing.T, c api.Config, place string) {
	t.Helper()
	want := errAt(place)
	if at, err := Valid(c); at != place || err != want {
		t.Errorf("Valid(%s): %q, %v, not %q, %v", short(c), at, err, place, want)
	}
	if at := ofValid(c); at != place {
		t.Errorf("the words of Valid(%s): %q, not %q", short(c), at, place)
	}
	text := ""
	if want == nil {
		text = ofText(c, false)
	}
	if got, err := Print(c); got != text || err != want {
		t.Errorf("Print(%s): %s, %v, not %s, %v", short(c), short(got), err, short(text), want)
	}
	held, clients, buckets, err := Bounds(c)
	if want != nil && (held != 0 || clients != 0 || buckets != 0 || err != want) || want == nil && (held != c.MaxConns*(c.MaxHead+c.MaxBody+131072) || clients != c.MaxConns || buckets != 1024 || err != nil) {
		t.Errorf("Bounds(%s): %d, %d, %d, %v", short(c), held, clients, buckets, err)
	}
	if !told(c) {
		return
	}
	for _, all := range []bool{false, true} {
		checkText(t, ofText(c, all), c, place, want)
	}
}

// short is what tells of a value, without what is too long to be read.
func short(value any) string {
	s := fmt.Sprintf("%+v", value)
	if len(s) > 800 {
		return s[:400] + ".." + s[len(s)-400:]
	}
	return s
}

// fullText has all names, each with another value than the one that is taken for it.
const fullText = `{"keys":[{"id":"k0","secret":"QQ"},{"id":"k1","secret":"AP8"}],` +
	`"pools":[{"name":"p0","backends":[{"addr":"a:80","weight":2},{"addr":"b:81","weight":3}],"policy":"hash","retries":4,"timeout":5,"breaker":{"fails":6,"open":7},"probe":{"path":"/h","every":8,"timeout":7,"rise":9,"fall":10}},` +
	`{"name":"p1","backends":[{"addr":"c:82","weight":11},{"addr":"d:83","weight":12}],"policy":"hash","retries":1,"timeout":13,"breaker":{"fails":14,"open":15},"probe":{"path":"/i","every":16,"timeout":15,"rise":17,"fall":18}}],` +
	`"routes":[{"host":"x","path":"/","methods":["GET","PUT"],"pool":"p1","auth":{"issuer":"i0","audience":"a0","scopes":["s","t"],"leeway":19},"limit":{"by":"client","rate":20,"per":21,"burst":22}},` +
	`{"host":"*.y","path":"/:z","methods":["POST","HEAD"],"pool":"p0","auth":{"issuer":"i1","audience":"a1","scopes":["u","v"],"leeway":23},"limit":{"by":"subject","rate":24,"per":25,"burst":26}}],` +
	`"maxhead":100,"maxbody":200,"maxconns":30,"idle":40,"header":50}`

// full is the configuration of fullText.
func full() api.Config {
	return api.Config{
		Keys: []api.Key{{ID: "k0", Secret: "A"}, {ID: "k1", Secret: "\x00\xff"}},
		Pools: []api.Pool{
			{Name: "p0", Backends: []api.Backend{{Addr: "a:80", Weight: 2}, {Addr: "b:81", Weight: 3}}, Policy: 2, Retries: 4, Timeout: 5,
				Breaker: api.Breaker{Fails: 6, Open: 7}, Probe: api.Probe{Path: "/h", Every: 8, Timeout: 7, Rise: 9, Fall: 10}},
			{Name: "p1", Backends: []api.Backend{{Addr: "c:82", Weight: 11}, {Addr: "d:83", Weight: 12}}, Policy: 2, Retries: 1, Timeout: 13,
				Breaker: api.Breaker{Fails: 14, Open: 15}, Probe: api.Probe{Path: "/i", Every: 16, Timeout: 15, Rise: 17, Fall: 18}},
		},
		Routes: []api.Route{
			{Host: "x", Path: "/", Methods: []string{"GET", "PUT"}, Pool: "p1", Auth: api.Auth{On: true, Issuer: "i0", Audience: "a0", Scopes: []string{"s", "t"}, Leeway: 19},
				Limit: api.Limit{By: 1, Rate: 20, Per: 21, Burst: 22}},
			{Host: "*.y", Path: "/:z", Methods: []string{"POST", "HEAD"}, Pool: "p0", Auth: api.Auth{On: true, Issuer: "i1", Audience: "a1", Scopes: []string{"u", "v"}, Leeway: 23},
				Limit: api.Limit{By: 2, Rate: 24, Per: 25, Burst: 26}},
		},
		MaxHead: 100, MaxBody: 200, MaxConns: 30, Idle: 40, Header: 50,
	}
}

// leastText has no name that may be missing.
const leastText = `{"pools":[{"name":"p","backends":[{"addr":"a:80"}]}],"routes":[{"host":"*","path":"/","pool":"p"}]}`

// least is the configuration of leastText.
func least() api.Config {
	return api.Config{
		Pools:   []api.Pool{{Name: "p", Backends: []api.Backend{{Addr: "a:80", Weight: 1}}, Policy: 1, Timeout: 30}},
		Routes:  []api.Route{{Host: "*", Path: "/", Pool: "p"}},
		MaxHead: 8192, MaxBody: 65536, MaxConns: 64, Idle: 60, Header: 10,
	}
}

// changed is a configuration with some changes.
func changed(c api.Config, changes ...func(c *api.Config)) api.Config {
	c = copyOf(c)
	for _, change := range changes {
		change(&c)
	}
	return c
}

// tree is a text's value, to be changed.
func tree(t *testing.T, text string) *api.Value {
	t.Helper()
	v, _, err := json.Parse(text)
	if err != nil {
		t.Fatalf("%s: %v", short(text), err)
	}
	return &v
}

// spot is what stands at a place of a tree.
func spot(v *api.Value, place string) *api.Value {
	if place == "" {
		return v
	}
	for step := range strings.SplitSeq(place, ".") {
		i, err := strconv.Atoi(step)
		if err != nil {
			i = slices.Index(v.Names, step)
		}
		v = &v.List[i]
	}
	return v
}

// cut takes a name out of its object.
func cut(v *api.Value, place string) {
	i := strings.LastIndex(place, ".")
	v = spot(v, place[:max(i, 0)])
	k := slices.Index(v.Names, place[i+1:])
	v.Names, v.List = slices.Delete(v.Names, k, k+1), slices.Delete(v.List, k, k+1)
}

// lay puts a name into an object, behind the others.
func lay(v *api.Value, name string, x api.Value) {
	v.Names, v.List = append(v.Names, name), append(v.List, x)
}

// written is a tree's text.
func written(t *testing.T, v *api.Value) string {
	t.Helper()
	text, err := json.Print(*v)
	if err != nil {
		t.Fatal(err)
	}
	return text
}

// placesOf are all places of a value, each ahead of those in it.
func placesOf(v *api.Value, place string) []string {
	l := []string{place}
	for i := range v.List {
		if v.Kind == api.JSONObject {
			l = append(l, placesOf(&v.List[i], behind(place, v.Names[i]))...)
		} else {
			l = append(l, placesOf(&v.List[i], behind(place, i))...)
		}
	}
	return l
}

// value is what a text of JSON tells.
func value(text string) api.Value {
	v, _, err := json.Parse(text)
	if err != nil {
		panic(err)
	}
	return v
}

// rest is so many bytes of one letter.
func rest(n int) string { return strings.Repeat("x", n) }

// secretText is the text of a secret of so many bytes.
func secretText(n int) string {
	return base64.RawURLEncoding.EncodeToString(bytes.Repeat([]byte{0xfb}, n))
}
