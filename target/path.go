package target

import (
	"bytes"
	"strings"
	"turnstile/api"
)

// oneWay is a path with each byte written in one way: unreserved ones as they are, others that stood in codes in codes with great letters.
func oneWay(path string) string {
	b := make([]byte, 0, len(path))
	for i := 0; i < len(path); i++ {
		c, coded := code(path[i:])
		if !coded {
			b = append(b, path[i])
			continue
		}
		b = appendByte(b, c)
		i += codeSize - 1
	}
	return string(b)
}

// withoutDots keeps what is left of the segments so far, each behind its /.
func withoutDots(path string) (string, error) {
	left := make([]byte, 0, len(path))
	rest, more := path[1:], true
	for more {
		var segment string
		segment, rest, more = strings.Cut(rest, "/")
		switch segment {
		case "..":
			if len(left) == 0 {
				return "", api.ErrTarget
			}
			left = left[:bytes.LastIndexByte(left, '/')]
			fallthrough
		case ".":
			if !more {
				left = append(left, '/')
			}
		default:
			left = append(append(left, '/'), segment...)
		}
	}
	return string(left), nil
}
