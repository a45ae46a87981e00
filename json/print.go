package json

import (
	"strconv"
	"turnstile/api"
)

// writer puts a text together. Of one that has no room, only that it has none counts.
type writer struct {
	text []byte
	room int // how many bytes may be added; below 0 there were too many
}

func (w *writer) add(s string) {
	w.room -= len(s)
	if w.room >= 0 {
		w.text = append(w.text, s...)
	}
}

func (w *writer) value(v api.Value) {
	switch v.Kind {
	case api.JSONNull:
		w.add("null")
	case api.JSONBool:
		w.add(strconv.FormatBool(v.Bool))
	case api.JSONNumber:
		w.add(v.Text)
	case api.JSONText:
		w.quoted(v.Text)
	case api.JSONList:
		w.add("[")
		w.parts(v)
		w.add("]")
	case api.JSONObject:
		w.add("{")
		w.parts(v)
		w.add("}")
	}
}

// parts writes what stands in a list or an object.
func (w *writer) parts(v api.Value) {
	for i, part := range v.List {
		if w.room < 0 {
			return
		}
		if i > 0 {
			w.add(",")
		}
		if v.Kind == api.JSONObject {
			w.quoted(v.Names[i])
			w.add(":")
		}
		w.value(part)
	}
}

// quoted writes a text as Quote does; one that is too long by itself is not quoted, which may take many times its memory.
func (w *writer) quoted(s string) {
	if len(s) > w.room {
		w.room = -1
		return
	}
	w.add(quote(s))
}

// quote is a text that is UTF-8, as JSON.
func quote(s string) string {
	text := []byte{'"'}
	for i := range len(s) {
		text = appendByte(text, s[i])
	}
	return string(append(text, '"'))
}

func appendByte(text []byte, c byte) []byte {
	switch {
	case c == '"' || c == '\\':
		return append(text, '\\', c)
	case c == '\n':
		return append(text, '\\', 'n')
	case c == '\r':
		return append(text, '\\', 'r')
	case c == '\t':
		return append(text, '\\', 't')
	case c < 32:
		return append(text, '\\', 'u', '0', '0', hexDigits[c>>4], hexDigits[c&15])
	}
	return append(text, c)
}
