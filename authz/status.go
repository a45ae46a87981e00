package authz

import (
	"errors"
	"turnstile/api"
)

const (
	unauthorized = 401
	forbidden    = 403
)

// Status is an error's status.
func Status(err error) int {
	switch {
	case err == nil:
		return 0
	case is(err, api.ErrScope):
		return forbidden
	}
	return unauthorized
}

// Challenge is what is asked for.
func Challenge(err error) string {
	switch {
	case err == nil:
		return ""
	case is(err, api.ErrScope):
		return `Bearer error="insufficient_scope"`
	case is(err, api.ErrToken):
		// Who bore nothing is told how to ask, and of no fault.
		return "Bearer"
	}
	return `Bearer error="invalid_token"`
}

// is tells whether an error is, or wraps, one of layer 19's.
func is(err error, one api.Errno) (yes bool) {
	// What is handed in has methods of its own, which may panic: then it is another error.
	defer func() { _ = recover() }()
	return errors.Is(err, one)
}
