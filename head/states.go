package head

import (
	"turnstile/api"
	"turnstile/chars"
)

const (
	cr = 13
	lf = 10
)

// What a head's next byte belongs to. The states of the first line stand ahead of all others, so that their number tells which error a byte makes.
const (
	inMethod       = iota
	inTarget       // of a request
	inLastVersion  // of a request, whose first line ends with it
	inFirstVersion // of a response, whose first line begins with it
	inStatus
	inReason
	atFirstEnd // behind the first line's 13
	inName     // or in the empty line, while nothing of a name has come
	inValue
	atFieldEnd // behind a field line's 13
	atEmptyEnd // behind the empty line's 13
	atEnd
)

const (
	version     = "HTTP/1."
	versionSize = len(version) + 1
	statusSize  = 3
	mostStatus  = 599
)

// take goes on with one byte, or is spoilt by it.
func (r *Reader) take(c byte) {
	r.taken++
	switch {
	// This is asked ahead of step, for of a byte that is wrong in both ways the size is told.
	case r.taken > r.most:
		r.spoil(api.ErrSize)
	case !r.step(c):
		r.spoil(r.fault())
	case len(r.fields) > api.MaxFields:
		r.spoil(api.ErrSize)
	}
}

// spoil drops what was read: nothing of it can be asked for any more.
func (r *Reader) spoil(err error) { *r = Reader{taken: r.taken, err: err} }

func (r *Reader) fault() error {
	if r.state <= atFirstEnd {
		return api.ErrLine
	}
	return api.ErrField
}

// step tells whether a head can go on with c; if it can't, nothing is changed.
func (r *Reader) step(c byte) bool {
	n := len(r.part)
	switch r.state {
	case inMethod:
		return r.row(c, chars.Token(c), ' ', n > 0, inTarget)
	case inTarget:
		return r.row(c, chars.Visible(c), ' ', n > 0, inLastVersion)
	case inLastVersion:
		return r.row(c, versionByte(n, c), cr, n == versionSize, atFirstEnd)
	case inFirstVersion:
		return r.row(c, versionByte(n, c), ' ', n == versionSize, inStatus)
	case inStatus:
		return r.row(c, statusByte(n, c), ' ', n == statusSize, inReason)
	case inReason:
		return r.row(c, chars.Value(c), cr, true, atFirstEnd)
	case atFirstEnd:
		return r.lineEnd(c, inName)
	case inName:
		if n == 0 && c == cr {
			r.state = atEmptyEnd
			return true
		}
		return r.row(c, chars.Token(c), ':', n > 0, inValue)
	case inValue:
		return r.row(c, chars.Value(c), cr, true, atFieldEnd)
	case atFieldEnd:
		return r.lineEnd(c, inName)
	case atEmptyEnd:
		return r.lineEnd(c, atEnd)
	}
	return false
}

// row goes on in a part that is a row of bytes: c ends it, if it is its end and the part may end here, or is one byte more, if it may be one.
func (r *Reader) row(c byte, may bool, end byte, done bool, next int) bool {
	if c == end && done {
		r.keep()
		r.state = next
		return true
	}
	if may {
		r.part = append(r.part, c)
	}
	return may
}

// lineEnd goes on behind a line's 13, where its 10 alone may stand.
func (r *Reader) lineEnd(c byte, next int) bool {
	if c != lf {
		return false
	}
	// A field counts when its line is whole, and no sooner.
	if r.state == atFieldEnd {
		r.fields = append(r.fields, r.field)
	}
	r.state = next
	return true
}

// keep lays the part that the state has read to where it belongs.
func (r *Reader) keep() {
	text := string(r.part)
	r.part = r.part[:0]
	switch r.state {
	case inMethod:
		r.method = text
	case inTarget:
		r.target = text
	case inLastVersion, inFirstVersion:
		r.minor = int(text[len(version)] - '0')
	case inStatus:
		r.status, _ = chars.Decimal(text, mostStatus)
	case inReason:
		r.reason = text
	case inName:
		r.field.Name = text
	case inValue:
		r.field.Value = chars.Trim(text)
	}
}

// versionByte tells whether c may stand at place n of a version.
func versionByte(n int, c byte) bool {
	if n < len(version) {
		return c == version[n]
	}
	return n < versionSize && (c == '0' || c == '1')
}

// statusByte tells whether c may stand at place n of a status.
func statusByte(n int, c byte) bool {
	if n == 0 {
		return c >= '1' && c <= '5'
	}
	return n < statusSize && chars.Digit(c)
}
