package authz

import (
	"errors"
	"io"
	"testing"
	"turnstile/api"
)

const (
	missingScope = `Bearer error="insufficient_scope"`
	invalid      = `Bearer error="invalid_token"`
)

// AZ3: no error, and each one of layer 19.
func TestStatus(t *testing.T) {
	checkError(t, nil, 0, "")
	checkError(t, api.ErrScope, 403, missingScope)
	checkError(t, api.ErrToken, 401, "Bearer")
	for _, err := range []error{api.ErrArg, api.ErrAlg, api.ErrKey, api.ErrSign, api.ErrTime, api.ErrIssuer, api.ErrAudience} {
		checkError(t, err, 401, invalid)
	}
}

// AZ3: every number that an error may have: only 57 is ErrScope, only 50 ErrToken, and 0 is an error, too.
func TestEveryNumber(t *testing.T) {
	for n := -1000; n <= 1000; n++ {
		status, challenge := 401, invalid
		switch n {
		case 57:
			status, challenge = 403, missingScope
		case 50:
			challenge = "Bearer"
		}
		checkError(t, api.Errno(n), status, challenge)
		for _, err := range around(api.Errno(n)) {
			checkError(t, err, status, challenge)
		}
	}
}

// foreign is an error of another type, with a number.
type foreign int

func (f foreign) Error() string { return api.Errno(f).Error() }

// listed is an error that can't be compared.
type listed []error

func (l listed) Error() string { return "listed" }

// empty is an error that is a nil pointer.
type empty struct{ err error }

func (e *empty) Error() string { return "empty" }
func (e *empty) Unwrap() error { return e.err }

// spoilt is an error of which a method panics.
type spoilt struct{}

func (spoilt) Error() string        { return "spoilt" }
func (spoilt) Is(target error) bool { panic("spoilt") }

// AZ3: errors that are none of layer 19, however much they look like one.
func TestForeignErrors(t *testing.T) {
	for _, err := range []error{
		io.EOF, errors.New(""), errors.New("error 57"), errors.New("error 50"), foreign(57), foreign(50), foreign(0), &empty{}, wrapped{"error 57", nil}, wrapped{"error 57", foreign(57)}, errors.Join(io.EOF, foreign(57)), listed{api.ErrScope},
		wrapped{"a", listed{api.ErrToken}}, api.ErrNone, api.ErrTwice, api.ErrConfig, api.ErrWord, api.Errno(0), api.Errno(403), api.Errno(401),
	} {
		checkError(t, err, 401, invalid)
		for _, outer := range around(err) {
			checkError(t, outer, 401, invalid)
		}
	}
}

// Rule 1: an error's own methods may panic: it is another error then.
func TestErrorsThatPanic(t *testing.T) {
	var none *empty
	var nothing error = none
	for _, err := range []error{spoilt{}, wrapped{"a", spoilt{}}, errors.Join(io.EOF, spoilt{}), nothing, wrapped{"b", nothing}} {
		checkError(t, err, 401, invalid)
	}
}

// AZ3: where an error is both, what is named first is told.
func TestBothErrors(t *testing.T) {
	for _, err := range []error{errors.Join(api.ErrScope, api.ErrToken), errors.Join(api.ErrToken, api.ErrScope), errors.Join(api.ErrTime, wrapped{"a", api.ErrScope}), wrapped{"b", errors.Join(io.EOF, api.ErrScope)}} {
		checkError(t, err, 403, missingScope)
	}
	checkError(t, errors.Join(api.ErrTime, api.ErrToken), 401, "Bearer")
	checkError(t, errors.Join(api.ErrToken, io.EOF), 401, "Bearer")
}

// AZ3: however deep it stands.
func TestDeepErrors(t *testing.T) {
	var scope, token, other error = api.ErrScope, api.ErrToken, api.ErrSign
	for range 1 << 16 {
		scope, token, other = wrapped{"s", scope}, &wrapped{"t", token}, wrapped{"o", other}
	}
	checkError(t, scope, 403, missingScope)
	checkError(t, token, 401, "Bearer")
	checkError(t, other, 401, invalid)
}
