package frame

import (
	"errors"
	"math/big"
	"math/rand"
	"regexp"
	"slices"
	"strconv"
	"strings"
	"testing"
	"turnstile/api"
)

// The chapter's words, written down a second time: by the library's patterns, and by numbers of any size.
var (
	lengthForm  = regexp.MustCompile(`^[ \t,]*[0-9]+([ \t]*,[ \t,]*[0-9]+)*[ \t,]*$`)
	numberForm  = regexp.MustCompile(`[0-9]+`)
	chunkedForm = regexp.MustCompile(`^[ \t,]*[cC][hH][uU][nN][kK][eE][dD][ \t,]*$`)
	lengthNames = regexp.MustCompile(`^[cC][oO][nN][tT][eE][nN][tT]-[lL][eE][nN][gG][tT][hH]$`)
	codingNames = regexp.MustCompile(`^[tT][rR][aA][nN][sS][fF][eE][rR]-[eE][nN][cC][oO][dD][iI][nN][gG]$`)
)

// greatest is 2 to the power of 40.
const greatest = 1099511627776

// of is the values of the fields whose name has a form.
func of(l []api.Field, form *regexp.Regexp) []string {
	var values []string
	for _, f := range l {
		if form.MatchString(f.Name) {
			values = append(values, f.Value)
		}
	}
	return values
}

// ofLength is what Length is to answer.
func ofLength(l []api.Field) (int, bool, error) {
	var numbers []*big.Int
	for _, value := range of(l, lengthNames) {
		if !lengthForm.MatchString(value) {
			return 0, false, api.ErrForm
		}
		for _, digits := range numberForm.FindAllString(value, -1) {
			n, _ := new(big.Int).SetString(digits, 10)
			numbers = append(numbers, n)
		}
	}
	if len(numbers) == 0 {
		return 0, false, nil
	}
	for _, n := range numbers {
		if n.Cmp(numbers[0]) != 0 || n.Cmp(big.NewInt(greatest)) > 0 {
			return 0, false, api.ErrForm
		}
	}
	return int(numbers[0].Int64()), true, nil
}

// ofChunked is what Chunked is to answer.
func ofChunked(l []api.Field) (bool, error) {
	values := of(l, codingNames)
	if values == nil {
		return false, nil
	}
	// Fields of one name are one list: empty ones add nothing but a comma.
	if !chunkedForm.MatchString(strings.Join(values, ",")) {
		return false, api.ErrForm
	}
	return true, nil
}

// ofMessage is what Request is to answer, and Response, where there may be a body; of neither field otherwise.
func ofMessage(minor int, l []api.Field, otherwise api.Frame) (api.Frame, error) {
	n, _, lengthErr := ofLength(l)
	_, chunkedErr := ofChunked(l)
	lengths, codings := len(of(l, lengthNames)), len(of(l, codingNames))
	switch {
	case lengthErr != nil, chunkedErr != nil, lengths > 0 && codings > 0, codings > 0 && minor == 0:
		return api.Frame{}, api.ErrFrame
	case codings > 0:
		return api.Frame{Kind: 2}, nil
	case lengths > 0:
		return api.Frame{Kind: 1, Length: n}, nil
	}
	return otherwise, nil
}

// ofResponse is what Response is to answer.
func ofResponse(method string, p api.Response) (api.Frame, error) {
	if method == "HEAD" || p.Status/100 == 1 && p.Status > 0 || p.Status == 204 || p.Status == 304 {
		return api.Frame{}, nil
	}
	return ofMessage(p.Minor, p.Fields, api.Frame{Kind: 3})
}

// ofFields is what Fields is to answer.
func ofFields(l []api.Field, f api.Frame) ([]api.Field, error) {
	if f.Kind < 0 || f.Kind > 3 || f.Length < 0 || f.Length > greatest || f.Length != 0 && f.Kind != 1 {
		return nil, api.ErrArg
	}
	want := slices.DeleteFunc(slices.Clone(l), func(f api.Field) bool {
		return lengthNames.MatchString(f.Name) || codingNames.MatchString(f.Name)
	})
	if f.Kind == 1 {
		want = append(want, api.Field{Name: "Content-Length", Value: big.NewInt(int64(f.Length)).String()})
	}
	if f.Kind == 2 {
		want = append(want, api.Field{Name: "Transfer-Encoding", Value: "chunked"})
	}
	return want, nil
}

// sameErr tells whether an error is that number itself, and not one that is wrapped.
func sameErr(got, want error) bool { return got == want && errors.Is(got, want) }

func checkLength(t *testing.T, l []api.Field, want int, has bool, wantErr error) {
	t.Helper()
	if n, ok, err := Length(l); n != want || ok != has || !sameErr(err, wantErr) {
		t.Errorf("Length(%s) = %d, %v, %v, not %d, %v, %v", short(l), n, ok, err, want, has, wantErr)
	}
}

func checkChunked(t *testing.T, l []api.Field, want bool, wantErr error) {
	t.Helper()
	if ok, err := Chunked(l); ok != want || !sameErr(err, wantErr) {
		t.Errorf("Chunked(%s) = %v, %v, not %v, %v", short(l), ok, err, want, wantErr)
	}
}

func checkRequest(t *testing.T, q api.Request, want api.Frame, wantErr error) {
	t.Helper()
	if f, err := Request(q); f != want || !sameErr(err, wantErr) {
		t.Errorf("Request(%q %q %d %s) = %+v, %v, not %+v, %v", q.Method, q.Target, q.Minor, short(q.Fields), f, err, want, wantErr)
	}
}

func checkResponse(t *testing.T, method string, p api.Response, want api.Frame, wantErr error) {
	t.Helper()
	if f, err := Response(method, p); f != want || !sameErr(err, wantErr) {
		t.Errorf("Response(%q, %d %q %d %s) = %+v, %v, not %+v, %v", method, p.Status, p.Reason, p.Minor, short(p.Fields), f, err, want, wantErr)
	}
}

func checkFields(t *testing.T, l []api.Field, f api.Frame, want []api.Field, wantErr error) {
	t.Helper()
	if got, err := Fields(l, f); !slices.Equal(got, want) || !sameErr(err, wantErr) {
		t.Errorf("Fields(%s, %+v) = %s, %v, not %s, %v", short(l), f, short(got), err, short(want), wantErr)
	}
}

// someFrames is framings, those that can't be among them.
func someFrames() []api.Frame {
	var frames []api.Frame
	for _, kind := range []int{0, 1, 2, 3, -1, 4} {
		for _, length := range []int{0, 1, 5, greatest, -1, greatest + 1} {
			frames = append(frames, api.Frame{Kind: kind, Length: length})
		}
	}
	return frames
}

// checkAll holds every call against the chapter's words.
func checkAll(t *testing.T, l []api.Field) {
	t.Helper()
	n, has, err := ofLength(l)
	checkLength(t, l, n, has, err)
	is, err := ofChunked(l)
	checkChunked(t, l, is, err)
	for minor := range 2 {
		f, err := ofMessage(minor, l, api.Frame{})
		checkRequest(t, api.Request{Method: "GET", Target: "/", Minor: minor, Fields: l}, f, err)
		for _, status := range []int{100, 200, 204, 304, 404} {
			p := api.Response{Status: status, Minor: minor, Fields: l}
			for _, method := range []string{"HEAD", "GET"} {
				f, err := ofResponse(method, p)
				checkResponse(t, method, p, f, err)
			}
		}
	}
	for _, f := range someFrames() {
		want, err := ofFields(l, f)
		checkFields(t, l, f, want, err)
	}
	if t.Failed() {
		t.FailNow()
	}
}

// fieldsOf is fields out of names and values, one behind the other.
func fieldsOf(texts ...string) []api.Field {
	var l []api.Field
	for i := 0; i < len(texts); i += 2 {
		l = append(l, api.Field{Name: texts[i], Value: texts[i+1]})
	}
	return l
}

// lengths is Content-Length fields of these values.
func lengths(values ...string) []api.Field { return named("Content-Length", values) }

// codings is Transfer-Encoding fields of these values.
func codings(values ...string) []api.Field { return named("Transfer-Encoding", values) }

func named(name string, values []string) []api.Field {
	var l []api.Field
	for _, value := range values {
		l = append(l, api.Field{Name: name, Value: value})
	}
	return l
}

// rows is all rows of so many pieces, put together.
func rows(count int, pieces ...string) []string {
	all := []string{""}
	for range count {
		var longer []string
		for _, row := range all {
			for _, piece := range pieces {
				longer = append(longer, row+piece)
			}
		}
		all = longer
	}
	return all
}

// short is fields as a text that a report can tell.
func short(l []api.Field) string {
	var s strings.Builder
	for _, f := range l {
		s.WriteString(strconv.QuoteToASCII(f.Name) + ": " + strconv.QuoteToASCII(f.Value) + "; ")
	}
	if s.Len() > 300 {
		return s.String()[:300] + ".."
	}
	return s.String()
}

// maker makes fields without an order.
type maker struct{ *rand.Rand }

func newMaker(seed int64) maker { return maker{rand.New(rand.NewSource(seed))} }

func (m maker) of(pieces ...string) string { return pieces[m.Intn(len(pieces))] }

// row is some of the pieces, one behind the other.
func (m maker) row(most int, pieces ...string) string {
	var s strings.Builder
	for range m.Intn(most + 1) {
		s.WriteString(m.of(pieces...))
	}
	return s.String()
}

// field is mostly one that tells of a framing, and mostly one that is right.
func (m maker) field() api.Field {
	switch m.Intn(6) {
	case 0, 1:
		return api.Field{Name: m.of("Content-Length", "content-length", "CONTENT-LENGTH"), Value: m.of("5", "05", " 5,5", "5 ,\t5", "0", m.row(4, "5", ",", " ", "0", "6", "+", "a"))}
	case 2:
		return api.Field{Name: m.of("Transfer-Encoding", "transfer-encoding", "tRANSFER-eNCODING"), Value: m.of("chunked", "CHUNKED", ",chunked ", m.row(3, "chunked", ",", " ", "gzip", "x"))}
	}
	return api.Field{Name: m.of("Host", "a", "", "Content-Lengt", "Content-Length ", "TransferEncoding", "Content_Length"), Value: m.of("", "5", "chunked", "x")}
}

func (m maker) fields(most int) []api.Field {
	var l []api.Field
	for range m.Intn(most + 1) {
		l = append(l, m.field())
	}
	return l
}
