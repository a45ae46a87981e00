package target

import (
	"strconv"
	"strings"
	"testing"
	"turnstile/api"
)

// TA4: ordinary queries, empty parts, and parts without or with more than one =.
func TestPairs(t *testing.T) {
	for query, want := range map[string][]api.Field{
		"": nil, "&": nil, "&&&": nil, "=": {{}}, "==": {{Value: "="}}, "=&=": {{}, {}}, "===a": {{Value: "==a"}},
		"a": {{Name: "a"}}, "a=": {{Name: "a"}}, "a=1": {{Name: "a", Value: "1"}}, "=1": {{Value: "1"}}, "a=b=c": {{Name: "a", Value: "b=c"}}, "a==": {{Name: "a", Value: "="}},
		"&a": {{Name: "a"}}, "a&": {{Name: "a"}}, "a&&b": {{Name: "a"}, {Name: "b"}}, "&&a=1&&&b=2&&": {{Name: "a", Value: "1"}, {Name: "b", Value: "2"}},
		"a=1&a=2&A=3&a": {{Name: "a", Value: "1"}, {Name: "a", Value: "2"}, {Name: "A", Value: "3"}, {Name: "a"}},
		"b=2&a=1":       {{Name: "b", Value: "2"}, {Name: "a", Value: "1"}},
		"+":             {{Name: " "}}, "+=+": {{Name: " ", Value: " "}}, "a+b=c++d": {{Name: "a b", Value: "c  d"}}, "%2b": {{Name: "+"}}, "a%2Bb=%2b+": {{Name: "a+b", Value: "+ "}}, "%20+": {{Name: "  "}},
		"a%3d=%3D": {{Name: "a=", Value: "="}}, "a%26b=%26&c": {{Name: "a&b", Value: "&"}, {Name: "c"}}, "%25%32%42=%2525": {{Name: "%2B", Value: "%25"}},
		"%00=%7f%ff": {{Name: "\x00", Value: "\x7f\xff"}}, "%c3%A9": {{Name: "é"}}, "/?=?/": {{Name: "/?", Value: "?/"}}, "a;b=c;d": {{Name: "a;b", Value: "c;d"}}, "a,b:@!$'()*~": {{Name: "a,b:@!$'()*~"}},
	} {
		checkPairs(t, query, want, nil)
	}
}

// TA4: what is no query, wherever the fault stands.
func TestPairsOfNoQuery(t *testing.T) {
	for _, wrong := range []string{"%", "%4", "%g0", "%0G", "%+1", "%4&1", "%2+", "#", " ", "[", "]", "\"", "<", ">", "\\", "^", "`", "{", "|", "}", "\x00", "\x1f", "\x7f", "\x80", "\xff", "é"} {
		for _, query := range []string{wrong, "a" + wrong, "a=" + wrong, wrong + "=a", "a&" + wrong, "a=b&" + wrong + "&c", "&" + wrong, strings.Repeat("a&", 100) + wrong} {
			checkPairs(t, query, nil, api.ErrTarget)
		}
	}
}

// TA4: every byte and every code, in a name and in a value.
func TestPairsOfEveryByte(t *testing.T) {
	for c := range 256 {
		for _, code := range []string{smallCode(c), greatCode(c)} {
			checkPairs(t, code+"="+code, []api.Field{{Name: one(c), Value: one(c)}}, nil)
			checkPairs(t, "a"+code+"b", []api.Field{{Name: "a" + one(c) + "b"}}, nil)
		}
		plain := "a" + one(c) + "b"
		switch {
		case c == '&':
			checkPairs(t, plain, []api.Field{{Name: "a"}, {Name: "b"}}, nil)
		case c == '=':
			checkPairs(t, plain, []api.Field{{Name: "a", Value: "b"}}, nil)
		case c == '+':
			checkPairs(t, plain, []api.Field{{Name: "a b"}}, nil)
		case has(pathS+"/?", byte(c)):
			checkPairs(t, plain, []api.Field{{Name: plain}}, nil)
			checkPairs(t, "x="+plain+"&y", []api.Field{{Name: "x", Value: plain}, {Name: "y"}}, nil)
		default:
			checkPairs(t, plain, nil, api.ErrTarget)
			checkPairs(t, "x="+plain+"&y", nil, api.ErrTarget)
		}
	}
}

// TA4: MaxFields fields and one more; parts that are empty do not count, and a fault behind them comes first.
func TestManyPairs(t *testing.T) {
	for count := range 130 {
		var parts, roomy []string
		var want []api.Field
		var err error
		for i := range count {
			name := strconv.Itoa(i)
			parts = append(parts, name+"=v")
			roomy = append(roomy, "&&"+name+"=v&")
			want = append(want, api.Field{Name: name, Value: "v"})
		}
		if count > 64 {
			want, err = nil, api.ErrLong
		}
		checkPairs(t, strings.Join(parts, "&"), want, err)
		checkPairs(t, strings.Join(roomy, "&")+"&&&", want, err)
		checkPairs(t, strings.Join(parts, "&")+"&%", nil, api.ErrTarget)
		empty, emptyErr := make([]api.Field, count), err
		if err != nil {
			empty = nil
		}
		checkPairs(t, strings.Repeat("=&", count), empty, emptyErr)
	}
	checkPairs(t, strings.Repeat("&", 200000), nil, nil)
	long := strings.Repeat("a+", 100000)
	checkPairs(t, long+"="+long, []api.Field{{Name: strings.Repeat("a ", 100000), Value: strings.Repeat("a ", 100000)}}, nil)
}

// TA4: any queries, held against the library's codes.
func TestPairsAny(t *testing.T) {
	m := newMaker(5)
	for range 100000 {
		query := m.query()
		want, err := pairs(query)
		checkPairs(t, query, want, err)
	}
}
