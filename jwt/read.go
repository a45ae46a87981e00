package jwt

import (
	"cmp"
	"slices"
	"strings"
	"turnstile/api"
	"turnstile/b64"
	"turnstile/json"
	"turnstile/pick"
)

// read reads a token. Which errors it answers is of no worth, only whether there is one.
func read(s string) (Token, error) {
	if len(s) > maxToken {
		return Token{}, api.ErrLong
	}
	parts := strings.Split(s, ".")
	if len(parts) != 3 {
		return Token{}, api.ErrForm
	}
	header, claims := objectOf(parts[0]), objectOf(parts[1])
	code, err := b64.Decode(parts[2])
	t := Token{Claims: claims.claims(), Signed: parts[0] + "." + parts[1], Signature: code}
	t.Alg, t.Kid = header.names()
	return t, cmp.Or(header.err, claims.err, err)
}

// object is a part of a token that is asked for what it holds. It keeps the first error; what it answers behind one is of no worth.
type object struct {
	value api.Value
	err   error
}

func objectOf(digits string) *object {
	o := new(object)
	text, err := b64.Decode(digits)
	o.note(err)
	o.value, _, err = json.Parse(string(text))
	o.note(err)
	if o.value.Kind != api.JSONObject {
		o.note(api.ErrKind)
	}
	return o
}

func (o *object) note(err error) {
	if o.err == nil {
		o.err = err
	}
}

// has tells whether a name is there, also with a null, which is a value of another kind than any that is asked for.
func (o *object) has(name string) bool {
	_, err := pick.At(o.value, name)
	return err == nil
}

func (o *object) text(name string) string {
	s, err := pick.Text(o.value, name)
	o.note(err)
	return s
}

func (o *object) textIfThere(name string) string {
	if !o.has(name) {
		return ""
	}
	return o.text(name)
}

func (o *object) tickIfThere(name string) int {
	if !o.has(name) {
		return missing
	}
	n, err := pick.Int(o.value, name, 0, api.MaxTicks)
	o.note(err)
	return n
}

// textsIfThere are a list's, or a text alone.
func (o *object) textsIfThere(name string) []string {
	at, err := pick.At(o.value, name)
	switch {
	case err != nil:
		return nil
	case at.Kind == api.JSONText:
		return []string{at.Text}
	}
	l, err := pick.Texts(at, "")
	o.note(err)
	return l
}

// wordsIfThere are what stands between single blanks.
func (o *object) wordsIfThere(name string) []string {
	s := o.textIfThere(name)
	if s == "" {
		return nil
	}
	l := strings.Split(s, " ")
	if slices.Contains(l, "") {
		o.note(api.ErrForm)
	}
	return l
}

// names are the algorithm and the key's ID of a header.
func (o *object) names() (alg, kid string) {
	alg = o.text("alg")
	kid = o.textIfThere("kid")
	o.textIfThere("typ")
	// It would tell of parts that must be understood, and none is.
	if o.has("crit") {
		o.note(api.ErrName)
	}
	return alg, kid
}

func (o *object) claims() api.Claims {
	return api.Claims{
		Subject:   o.textIfThere("sub"),
		Issuer:    o.textIfThere("iss"),
		Audience:  o.textsIfThere("aud"),
		Scopes:    o.wordsIfThere("scope"),
		NotBefore: o.tickIfThere("nbf"),
		Exp:       o.tickIfThere("exp"),
	}
}
