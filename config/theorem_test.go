package config

import (
	"fmt"
	"math/rand"
	"reflect"
	"slices"
	"strings"
	"testing"
	"turnstile/api"
	"unsafe"
)

// maker makes any configurations and texts.
type maker struct{ *rand.Rand }

func newMaker(seed int64) *maker { return &maker{rand.New(rand.NewSource(seed))} }

// of is one of some texts.
func (m *maker) of(texts ...string) string { return texts[m.Intn(len(texts))] }

// number is one from low to high: one of the ends, the one that is taken, or any.
func (m *maker) number(low, taken, high int) int {
	switch m.Intn(5) {
	case 0:
		return low
	case 1:
		return high
	case 2, 3:
		return taken
	}
	return low + m.Intn(high-low+1)
}

// words are some unlike tokens.
func (m *maker) words(longest int) []string {
	l := filled(m.Intn(5)*m.Intn(5), func(i int) string { return m.word(longest-2) + fmt.Sprintf("%02d", i) })
	m.Shuffle(len(l), func(i, k int) { l[i], l[k] = l[k], l[i] })
	return l
}

func (m *maker) word(longest int) string {
	if m.Intn(20) == 0 {
		return rest(longest)
	}
	return m.of("", "a", "B", "x-y", "~", "!#$%&'*+.^_`|", "GET", "read.it")
}

func (m *maker) claim() string {
	return m.of("", "", "a", "https://a.b/", "\"\\", "\n\r\t\b\f\x00", "é\u2028\U0001F600", "\x7f<>&", rest(256), strings.Repeat("\x01", 256), strings.Repeat("é", 128))
}

// config is any that may be.
func (m *maker) config() api.Config {
	c := api.Config{MaxHead: m.number(64, 8192, 1<<16), MaxBody: m.number(0, 65536, 1<<20), MaxConns: m.number(1, 64, 64), Idle: m.number(1, 60, 1<<20), Header: m.number(1, 10, 1<<20)}
	for i := range m.Intn(4) * m.Intn(5) {
		secret := make([]byte, 1+m.Intn(5)*m.Intn(64))
		m.Read(secret)
		c.Keys = append(c.Keys, api.Key{ID: m.word(62) + fmt.Sprintf("%02d", i), Secret: string(secret)})
	}
	for i := range 1 + m.Intn(3)*m.Intn(4) {
		c.Pools = append(c.Pools, m.pool(i))
	}
	for range 1 + m.Intn(3)*m.Intn(5) {
		c.Routes = append(c.Routes, m.route(c))
	}
	return c
}

func (m *maker) pool(i int) api.Pool {
	p := api.Pool{Name: m.word(62) + fmt.Sprintf("%02d", i), Policy: 1 + m.Intn(2), Retries: m.number(0, 0, 8), Timeout: m.number(1, 30, 1<<20)}
	for k := range 1 + m.Intn(3)*m.Intn(6) {
		p.Backends = append(p.Backends, api.Backend{Addr: m.of("a", "b.c", "127.0.0.1", "-_.", rest(123)) + fmt.Sprint(":", m.of("", "00"), k), Weight: m.number(1, 1, 256)})
	}
	if m.Intn(2) == 0 {
		p.Breaker = api.Breaker{Fails: m.number(1, 5, 1000), Open: m.number(1, 5, 1<<20)}
	}
	if m.Intn(2) == 0 {
		every := m.number(1, 30, 1<<20)
		p.Probe = api.Probe{Path: m.of("/", "/a", "//", "/a/./b", "/%7e", "/"+rest(255)), Every: every, Timeout: m.number(1, every, every), Rise: m.number(1, 2, 100), Fall: m.number(1, 2, 100)}
	}
	return p
}

func (m *maker) route(c api.Config) api.Route {
	r := api.Route{Host: m.of("", "*", "a", "*.b", "A.b.C"), Path: m.of("/", "/a", "/:a", "/*a", `/"\`, "/a/:b/*c", "//", "/"+rest(255)), Methods: m.words(32), Pool: c.Pools[m.Intn(len(c.Pools))].Name}
	if m.Intn(2) == 0 {
		r.Auth = api.Auth{On: true, Issuer: m.claim(), Audience: m.claim(), Scopes: m.words(64), Leeway: m.number(0, 0, 1<<20)}
	}
	if m.Intn(2) == 0 {
		r.Limit = api.Limit{By: 1, Rate: m.number(1, 5, 1<<20), Per: m.number(1, 5, 1<<20), Burst: m.number(1, 5, 1<<20)}
		if r.Auth.On {
			r.Limit.By += m.Intn(2)
		}
	}
	return r
}

// spoilt is a copy with one field changed to anything.
func (m *maker) spoilt(c api.Config) api.Config {
	c = copyOf(c)
	l := leaves(reflect.ValueOf(&c).Elem())
	switch v := l[m.Intn(len(l))]; v.Kind() {
	case reflect.Bool:
		v.SetBool(!v.Bool())
	case reflect.Int:
		n := []int{-1, 0, 1, 2, 3, 8, 9, 63, 64, 65, 100, 101, 256, 257, 1000, 1001, 1 << 16, 1<<16 + 1, 1 << 20, 1<<20 + 1, -1 << 63, 1<<63 - 1, int(v.Int()) + 1, int(v.Int()) - 1}
		v.SetInt(int64(n[m.Intn(len(n))]))
	case reflect.String:
		s := v.String()
		at := m.Intn(len(s) + 1)
		v.SetString(m.of("", "a", "/", "*", "a:80", " ", "\xff", "é", rest(32), rest(33), rest(64), rest(65), rest(128), rest(129), rest(256), rest(257), "/"+rest(256), s+s, s[:at], s[:at]+m.of("a", " ", "/", "\x00", ":", "%", "..")+s[at:]))
	case reflect.Slice:
		m.spoilList(v)
	}
	return c
}

func (m *maker) spoilList(v reflect.Value) {
	switch n := v.Len(); {
	case n == 0 || m.Intn(4) == 0:
		more := reflect.MakeSlice(v.Type(), 1, 1)
		for range m.Intn(40) {
			more = reflect.Append(more, reflect.Zero(v.Type().Elem()))
		}
		v.Set(reflect.AppendSlice(v, more))
	case m.Intn(3) == 0:
		v.Set(reflect.Append(v, v.Index(m.Intn(n))))
	case m.Intn(2) == 0:
		v.Set(v.Slice(0, m.Intn(n)))
	default:
		v.SetZero()
	}
}

// lastStep is a place without the steps ahead, and without places of lists.
func lastStep(place string) string { return place[strings.LastIndex(place, ".")+1:] }

// CF4: Parse of Print is the same configuration, and Print of that the same text.
func TestThereAndBack(t *testing.T) {
	m := newMaker(1)
	for i := range 1500 {
		c := m.config()
		if i == 0 {
			c = greatest()
		}
		text, err := Print(c)
		if err != nil {
			t.Fatalf("Print(%s): %v", short(c), err)
		}
		back, place, err := Parse(text)
		if place != "" || err != nil || !alike(back, c) || !Same(back, c) {
			t.Fatalf("Parse(%s): %s, %q, %v, not %s", text, short(back), place, err, short(c))
		}
		if again, err := Print(back); again != text || err != nil {
			t.Fatalf("Print(%s): %s, %v, not %s", short(back), again, err, text)
		}
		if want := ofText(c, false); text != want {
			t.Fatalf("Print(%s): %s, not %s", short(c), text, want)
		}
	}
}

// CF1 to CF4: any configurations, spoilt in some fields, against the chapter's words.
func TestAnyConfig(t *testing.T) {
	m := newMaker(2)
	ends := map[string]int{}
	untold := 0
	for range 3000 {
		c := m.config()
		for range m.Intn(4) {
			c = m.spoilt(c)
		}
		place := ofValid(c)
		checkPlace(t, c, place)
		ends[lastStep(place)]++
		if !told(c) {
			untold++
		}
		other := m.spoilt(c)
		checkSame(t, c, other, alike(c, other))
		for _, name := range []string{"", "a", "no", m.word(62) + "00"} {
			want := slices.IndexFunc(c.Pools, func(p api.Pool) bool { return p.Name == name })
			var wantErr error
			if want < 0 {
				want, wantErr = 0, api.ErrNone
			}
			if got, err := Pool(c, name); got != want || err != wantErr {
				t.Errorf("Pool(%s, %q): %d, %v", short(c), name, got, err)
			}
		}
		if t.Failed() {
			t.FailNow()
		}
	}
	if len(ends) != 35 || ends[""] < 800 || untold < 200 {
		t.Errorf("%d places %v, %d untold", len(ends), ends, untold)
	}
}

// CF1: any texts, with values changed, left out and put between, and bytes changed.
func TestAnyText(t *testing.T) {
	m := newMaker(3)
	kinds := []string{"null", "true", "0", "1", "7", "-1", "1.5", "1e3", `""`, `"x"`, `"p0"`, `"turns"`, "[]", `["x"]`, "[1]", "{}", `{"x":1}`, `{"fails":0,"open":0}`, `{"addr":"a:1"}`, `[{"addr":"a:1"}]`, "1048577"}
	names := []string{"x", "", "name", "weight", "path", "auth", "limit", "timeout", "keys", "scopes", "pool"}
	ends := map[error]int{}
	for range 3000 {
		text := ofText(m.config(), m.Intn(2) == 0)
		if m.Intn(4) == 0 {
			text = m.of(fullText, leastText)
		}
		v := tree(t, text)
		for range m.Intn(4) {
			places := placesOf(v, "")
			place := places[m.Intn(len(places))]
			at := spot(v, place)
			switch m.Intn(4) {
			case 0:
				if at.Kind == api.JSONObject && !slices.Contains(at.Names, "other") {
					if name := names[m.Intn(len(names))]; !slices.Contains(at.Names, name) {
						lay(at, name, value(kinds[m.Intn(len(kinds))]))
					}
				}
			case 1:
				if at.Kind == api.JSONObject && len(at.Names) > 0 {
					k := m.Intn(len(at.Names))
					at.Names, at.List = slices.Delete(at.Names, k, k+1), slices.Delete(at.List, k, k+1)
				}
			default:
				*at = value(kinds[m.Intn(len(kinds))])
			}
		}
		text = written(t, v)
		if m.Intn(10) == 0 {
			i := m.Intn(len(text))
			text = text[:i] + m.of("", "\"", "{", "]", ",", ":", "0", "\\", "\x00", "\xff", " ") + text[i+1:]
		}
		want, place, err := ofParse(text)
		checkText(t, text, want, place, err)
		ends[err]++
		if t.Failed() {
			t.FailNow()
		}
	}
	if ends[nil] < 500 || ends[api.ErrConfig] < 1000 || ends[api.ErrForm] < 100 {
		t.Errorf("errors %v", ends)
	}
}

// Rule 1: nothing panics, whatever it is given, and all ends soon.
func TestAnyBytes(t *testing.T) {
	m := newMaker(4)
	for range 20000 {
		b := make([]byte, m.Intn(30))
		for i := range b {
			if b[i] = byte(m.Intn(256)); m.Intn(4) != 0 {
				b[i] = `{}[]",:1pools`[m.Intn(13)]
			}
		}
		want, place, err := ofParse(string(b))
		checkText(t, string(b), want, place, err)
	}
	long := rest(1 << 22)
	for _, c := range []api.Config{
		{Keys: make([]api.Key, 1<<20)}, {Pools: make([]api.Pool, 1<<18)}, {Routes: make([]api.Route, 1<<18)},
		changed(full(), func(c *api.Config) { c.Pools[0].Backends = make([]api.Backend, 1<<20) }), changed(full(), func(c *api.Config) { c.Routes[0].Methods = make([]string, 1<<20) }),
		changed(full(), func(c *api.Config) { c.Routes[0].Auth.Scopes = make([]string, 1<<20) }), changed(full(), func(c *api.Config) { c.Routes[0].Auth.Issuer = long }),
		changed(full(), func(c *api.Config) { c.Pools[0].Probe.Path = "/" + long }), changed(full(), func(c *api.Config) { c.Routes[0].Path = "/" + long }), changed(full(), func(c *api.Config) { c.Routes[0].Host = long }),
		changed(full(), func(c *api.Config) { c.Pools[0].Name = long }), changed(full(), func(c *api.Config) { c.Keys[0].ID = long }), changed(full(), func(c *api.Config) { c.Pools[0].Backends[0].Addr = long + ":1" }),
	} {
		if place, err := Valid(c); place == "" || err != api.ErrConfig {
			t.Errorf("Valid: %q, %v", place, err)
		}
		if text, err := Print(c); text != "" || err != api.ErrConfig {
			t.Errorf("Print: %d bytes, %v", len(text), err)
		}
	}
}

// span is where a text or a list stands in memory, its room too.
type span struct {
	from, to uintptr
	what     string
}

// spans are those of all texts and lists of a configuration.
func spans(c *api.Config) []span {
	var l []span
	for _, v := range leaves(reflect.ValueOf(c).Elem()) {
		switch v.Kind() {
		case reflect.String:
			l = append(l, textSpan(v.String()))
		case reflect.Slice:
			from := v.Pointer()
			l = append(l, span{from, from + uintptr(v.Cap())*v.Type().Elem().Size(), fmt.Sprint(v.Type())})
		}
	}
	// What has no bytes stands nowhere.
	return slices.DeleteFunc(l, func(s span) bool { return s.from == s.to })
}

func textSpan(s string) span {
	from := uintptr(unsafe.Pointer(unsafe.StringData(s)))
	return span{from, from + uintptr(len(s)), fmt.Sprintf("%q", s)}
}

// apart tells of spans that share bytes; one-byte texts are the runtime's own, which nobody writes.
func apart(t *testing.T, l []span) {
	t.Helper()
	l = slices.DeleteFunc(slices.Clone(l), func(s span) bool { return s.to-s.from <= 1 })
	slices.SortFunc(l, func(a, b span) int { return int(int64(a.from) - int64(b.from)) })
	for i := range len(l) - 1 {
		if l[i].to > l[i+1].from {
			t.Errorf("%s and %s share memory", short(l[i].what), short(l[i+1].what))
		}
	}
}

// Rule 3: what Parse and Print answer shares no memory with what was handed in, and no two lists share any.
func TestAnswersAreNewMemory(t *testing.T) {
	m := newMaker(5)
	for i := range 200 {
		c := m.config()
		if i == 0 {
			c = full()
		}
		text := strings.Clone(ofText(c, i%2 == 0))
		got, _, err := Parse(text)
		other, _, otherErr := Parse(text)
		if err != nil || otherErr != nil {
			t.Fatal(err, otherErr)
		}
		printed, _ := Print(got)
		again, _ := Print(got)
		l := append(append(spans(&got), spans(&other)...), textSpan(text), textSpan(printed), textSpan(again))
		apart(t, l)
		if t.Failed() {
			t.FailNow()
		}
	}
}

// overwritten is a text whose bytes may be written over.
func overwritten(s string) (string, []byte) {
	b := []byte(s)
	return unsafe.String(unsafe.SliceData(b), len(b)), b
}

// Rule 3: a text that is written over changes nothing of what was read from it, or of the place that was told.
func TestTextIsNotKept(t *testing.T) {
	text, b := overwritten(fullText)
	c, _, err := Parse(text)
	if err != nil || string(b) != fullText {
		t.Fatalf("%v, %s", err, b)
	}
	clear(b)
	if !alike(c, full()) {
		t.Errorf("%s", short(c))
	}
	text, b = overwritten(strings.Replace(fullText, `"rate":24`, `"rate":null`, 1))
	_, place, _ := Parse(text)
	clear(b)
	if place != "routes.1.limit.rate" {
		t.Errorf("%q", place)
	}
}

// Rule 3: a configuration that is handed in stays as it was, room and all, and what was answered stays when it is written over.
func TestArgumentsStay(t *testing.T) {
	m := newMaker(6)
	for range 300 {
		c := m.config()
		if m.Intn(3) == 0 {
			c = m.spoilt(c)
		}
		// Each list has room behind it, which is not to be written.
		for _, v := range leaves(reflect.ValueOf(&c).Elem()) {
			if v.Kind() == reflect.Slice {
				v.Set(reflect.AppendSlice(reflect.MakeSlice(v.Type(), 0, v.Len()+3), v))
			}
		}
		was, before := copyOf(c), fmt.Sprint(roomOf(c))
		place, err := Valid(c)
		text, printErr := Print(c)
		same := Same(c, was)
		Pool(c, "a")
		Bounds(c)
		if !alike(c, was) || fmt.Sprint(roomOf(c)) != before || !same {
			t.Fatalf("%s was changed to %s", short(was), short(c))
		}
		placeWas, textWas := strings.Clone(place), strings.Clone(text)
		for _, v := range leaves(reflect.ValueOf(&c).Elem()) {
			v.SetZero()
		}
		if place != placeWas || text != textWas || err != errAt(place) || printErr != err {
			t.Fatalf("%q, %v, %s, %v", place, err, text, printErr)
		}
	}
}

// roomOf is what stands in the room behind a configuration's lists.
func roomOf(c api.Config) []any {
	var l []any
	for _, v := range leaves(reflect.ValueOf(&c).Elem()) {
		if v.Kind() == reflect.Slice {
			l = append(l, v.Slice(v.Len(), v.Cap()).Interface())
		}
	}
	return l
}

// Rule 3: lists of an answer may be added to without a change of another list of it, or of another answer.
func TestListsStandAlone(t *testing.T) {
	c, _, err := Parse(fullText)
	other, _, otherErr := Parse(fullText)
	if err != nil || otherErr != nil {
		t.Fatal(err, otherErr)
	}
	for _, v := range leaves(reflect.ValueOf(&c).Elem()) {
		if v.Kind() == reflect.Slice {
			whole := v.Slice(0, v.Cap())
			for i := v.Len(); i < whole.Len(); i++ {
				whole.Index(i).SetZero()
			}
			reflect.Append(v, reflect.Zero(v.Type().Elem()))
		}
	}
	if !alike(c, full()) || !alike(other, full()) {
		t.Errorf("%s, %s", short(c), short(other))
	}
}

// Rule 4: what is answered hangs on the arguments alone, in whatever order it is asked, also at the same time.
func TestInTurns(t *testing.T) {
	m := newMaker(7)
	var configs []api.Config
	var texts, want []string
	for range 60 {
		c := m.config()
		if m.Intn(2) == 0 {
			c = m.spoilt(c)
		}
		configs, texts = append(configs, c), append(texts, ofText(c, false))
	}
	answer := func(i int) string {
		place, err := Valid(configs[i])
		text, printErr := Print(configs[i])
		held, clients, buckets, boundsErr := Bounds(configs[i])
		c, at, parseErr := Parse(texts[i])
		pool, poolErr := Pool(configs[i], "a00")
		same := Same(configs[i], configs[(i+1)%len(configs)])
		return fmt.Sprintln(place, err, text, printErr, held, clients, buckets, boundsErr, c, at, parseErr, pool, poolErr, same)
	}
	for i := range configs {
		want = append(want, answer(i))
	}
	done := make(chan bool)
	for worker := range 8 {
		go func() {
			defer func() { done <- true }()
			for turn := range 120 {
				i := (turn*7 + worker) % len(configs)
				if got := answer(i); got != want[i] {
					t.Errorf("%s, not %s", got, want[i])
				}
			}
		}()
	}
	for range 8 {
		<-done
	}
}
