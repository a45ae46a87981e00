package write

import (
	"turnstile/api"
	"turnstile/chars"
)

const statusOK = 200

// Reason is a status's words.
func Reason(status int) string {
	switch status {
	case statusOK:
		return "OK"
	case 400:
		return "Bad Request"
	case 401:
		return "Unauthorized"
	case 403:
		return "Forbidden"
	case 404:
		return "Not Found"
	case 413:
		return "Content Too Large"
	case 417:
		return "Expectation Failed"
	case 429:
		return "Too Many Requests"
	case 431:
		return "Request Header Fields Too Large"
	case 502:
		return "Bad Gateway"
	case 503:
		return "Service Unavailable"
	case 504:
		return "Gateway Timeout"
	}
	return ""
}

// Local is the gateway's own response, and its body.
func Local(status, minor int, last bool) (api.Response, []byte, error) {
	reason := Reason(status)
	if status == statusOK || reason == "" || !isMinor(minor) {
		return api.Response{}, nil, api.ErrLine
	}
	body := []byte(chars.Text(status) + " " + reason + "\n")
	fields := []api.Field{
		{Name: "Content-Type", Value: "text/plain"},
		{Name: "Content-Length", Value: chars.Text(len(body))},
	}
	if last {
		fields = append(fields, api.Field{Name: "Connection", Value: "close"})
	}
	return api.Response{Status: status, Reason: reason, Minor: minor, Fields: fields}, body, nil
}
