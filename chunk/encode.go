package chunk

import (
	"turnstile/api"
	"turnstile/chars"
)

const (
	colon   = ": "
	lineEnd = "\r\n"
)

// Encode is a chunk.
func Encode(b []byte) []byte {
	// A chunk of the size 0 would be the last one.
	if len(b) == 0 {
		return nil
	}
	size, _ := chars.HexText(len(b))
	chunk := make([]byte, 0, len(size)+len(b)+2*len(lineEnd))
	chunk = append(chunk, size+lineEnd...)
	chunk = append(chunk, b...)
	return append(chunk, lineEnd...)
}

// Last is the last chunk, with trailers.
func Last(l []api.Field) ([]byte, error) {
	if !mayFields(l) {
		return nil, api.ErrField
	}
	// Asked ahead of writing, so that no more is laid down than trailers may have.
	if lineBytes(l) > mostLines {
		return nil, api.ErrSize
	}
	b := []byte("0" + lineEnd)
	for _, f := range l {
		b = append(b, f.Name+colon+f.Value+lineEnd...)
	}
	return append(b, lineEnd...), nil
}

// lineBytes is how many bytes the lines of fields have.
func lineBytes(l []api.Field) int {
	n := 0
	for _, f := range l {
		n += len(f.Name) + len(colon) + len(f.Value) + len(lineEnd)
	}
	return n
}

// mayFields tells whether fields may be written, by layer 10's words; they are told here again, since this layer does not stand on that one.
func mayFields(l []api.Field) bool {
	if len(l) > api.MaxFields {
		return false
	}
	for _, f := range l {
		if !chars.IsToken(f.Name) || !isValue(f.Value) {
			return false
		}
	}
	return true
}

// isValue leaves out blanks at both ends, for a reader would take them for none of the value's own.
func isValue(s string) bool {
	for i := range len(s) {
		if !chars.Value(s[i]) {
			return false
		}
	}
	return chars.Trim(s) == s
}
