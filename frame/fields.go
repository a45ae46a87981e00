package frame

import (
	"strings"
	"turnstile/api"
	"turnstile/chars"
)

const (
	lengthName = "Content-Length"
	codingName = "Transfer-Encoding"
	onlyCoding = "chunked"
)

// Fields are fields that frame a body so.
func Fields(l []api.Field, f api.Frame) ([]api.Field, error) {
	if !mayBe(f) {
		return nil, api.ErrArg
	}
	fields := unframed(l)
	switch f.Kind {
	case api.FrameLength:
		fields = append(fields, api.Field{Name: lengthName, Value: chars.Text(f.Length)})
	case api.FrameChunked:
		fields = append(fields, api.Field{Name: codingName, Value: onlyCoding})
	}
	return fields, nil
}

// mayBe tells whether there is such a framing.
func mayBe(f api.Frame) bool {
	switch f.Kind {
	case api.FrameLength:
		return f.Length >= 0 && f.Length <= api.MaxLength
	case api.FrameNone, api.FrameChunked, api.FrameClose:
		return f.Length == 0
	}
	return false
}

// unframed is the fields that tell nothing of a framing, in new memory, their texts too, for a text could hold on to a longer one.
func unframed(l []api.Field) []api.Field {
	var others []api.Field
	for _, f := range l {
		if !frames(f.Name) {
			others = append(others, api.Field{Name: strings.Clone(f.Name), Value: strings.Clone(f.Value)})
		}
	}
	return others
}

// frames tells whether fields of a name tell of a framing.
func frames(name string) bool {
	return chars.Same(name, lengthName) || chars.Same(name, codingName)
}

// oneNumber is the number that a list has, once or more often, and none beside it.
func oneNumber(value string) (int, bool) {
	number, has := 0, false
	for _, element := range chars.List(value) {
		n, err := chars.Decimal(element, api.MaxLength)
		if err != nil || has && n != number {
			return 0, false
		}
		number, has = n, true
	}
	return number, has
}

// onlyChunked tells whether the lists have one element in all, and that is chunked.
func onlyChunked(values []string) bool {
	count := 0
	for _, value := range values {
		for _, element := range chars.List(value) {
			if !chars.Same(element, onlyCoding) {
				return false
			}
			count++
		}
	}
	return count == 1
}
