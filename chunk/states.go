package chunk

import (
	"turnstile/api"
	"turnstile/chars"
)

const (
	cr = 13
	lf = 10

	mostDigits    = 16
	mostExtension = 256
	mostLines     = 8192 // bytes of all trailers' lines
)

// What a body's next byte belongs to. The states of chunks stand ahead of those of trailers, so that their number tells which error a byte makes.
const (
	inSize      = iota
	inExtension // behind its first byte
	atSizeEnd   // behind a size line's 13
	inBytes
	behindBytes
	atChunkEnd // behind a chunk's last 13
	atLine     // at the begin of a trailer's line, or of the last line's end
	inName
	inValue
	atLineEnd // behind a trailer's 13
	atLastEnd // behind the last line's 13
	atEnd
	nowhere // is where a byte leads with which there is no going on
)

// own takes the bytes of b that are the chunk's own.
func (r *Reader) own(b []byte) []byte {
	piece := b[:min(uint64(len(b)), r.left)]
	r.told += len(piece)
	r.left -= uint64(len(piece))
	if r.left == 0 {
		r.state = behindBytes
	}
	return piece
}

// step goes on with one byte that is none of a chunk's own, or tells why it can't.
func (r *Reader) step(c byte) error {
	if r.ofLines(c) {
		r.lines++
	}
	// Asked ahead of all else, for at this byte the size is told, whatever else is wrong with it, and its line is not whole.
	if r.lines > mostLines {
		return api.ErrSize
	}
	next := r.next(c)
	switch {
	case next == nowhere && r.state < atLine:
		return api.ErrChunk
	case next == nowhere:
		return api.ErrField
	case next == inBytes && r.left > uint64(r.most-r.told):
		return api.ErrBody
	}
	r.state = next
	return nil
}

// ofLines tells whether c belongs to the trailers' lines. The last line's end does not.
func (r *Reader) ofLines(c byte) bool {
	switch r.state {
	case atLine:
		return c != cr
	case inName, inValue, atLineEnd:
		return true
	}
	return false
}

// next is the state to which c leads.
func (r *Reader) next(c byte) int {
	switch r.state {
	case inSize:
		return r.ofSize(c)
	case inExtension:
		return r.ofExtension(c)
	case atSizeEnd:
		return r.ofSizeEnd(c)
	case behindBytes:
		return only(cr, c, atChunkEnd)
	case atChunkEnd:
		return only(lf, c, inSize)
	case atLine:
		return r.ofFirst(c)
	case inName:
		return r.ofName(c)
	case inValue:
		return r.ofValue(c)
	case atLineEnd:
		return r.ofLineEnd(c)
	case atLastEnd:
		return only(lf, c, atEnd)
	}
	return nowhere
}

// only is the next state where one byte alone may stand.
func only(one, c byte, next int) int {
	if c != one {
		return nowhere
	}
	return next
}

func (r *Reader) ofSize(c byte) int {
	digit, is := chars.Hex(c)
	switch {
	case is && r.count < mostDigits:
		r.left = r.left<<4 | uint64(digit)
		r.count++
		return inSize
	case r.count == 0:
		return nowhere
	case c == cr:
		return atSizeEnd
	case c == ';' || c == ' ' || c == '\t':
		r.count = 1
		return inExtension
	}
	return nowhere
}

func (r *Reader) ofExtension(c byte) int {
	switch {
	case c == cr:
		return atSizeEnd
	case r.count < mostExtension && chars.Value(c):
		r.count++
		return inExtension
	}
	return nowhere
}

func (r *Reader) ofSizeEnd(c byte) int {
	if c != lf {
		return nowhere
	}
	r.count = 0
	if r.left == 0 {
		return atLine
	}
	return inBytes
}

func (r *Reader) ofFirst(c byte) int {
	switch {
	case c == cr:
		return atLastEnd
	case len(r.trailers) == api.MaxFields:
		return nowhere
	}
	return r.add(c, chars.Token(c), inName)
}

func (r *Reader) ofName(c byte) int {
	if c == ':' {
		r.name = r.text()
		return inValue
	}
	return r.add(c, chars.Token(c), inName)
}

func (r *Reader) ofValue(c byte) int {
	if c == cr {
		return atLineEnd
	}
	return r.add(c, chars.Value(c), inValue)
}

// ofLineEnd keeps a trailer when its line is whole, and no sooner.
func (r *Reader) ofLineEnd(c byte) int {
	if c != lf {
		return nowhere
	}
	r.trailers = append(r.trailers, api.Field{Name: r.name, Value: chars.Trim(r.text())})
	return atLine
}

// add lays c to the part, if it may stand there.
func (r *Reader) add(c byte, may bool, next int) int {
	if !may {
		return nowhere
	}
	r.part = append(r.part, c)
	return next
}

// text is the part, of which nothing is kept any more.
func (r *Reader) text() string {
	text := string(r.part)
	r.part = nil
	return text
}
