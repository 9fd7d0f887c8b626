package request

import (
	"slices"
	"strings"

	"ingot/api"
)

// Print writes a request.
func Print(q api.Request) (string, api.Errno) {
	text := textOf(q)
	told := New().Feed([]byte(text))
	if len(told) != 1 || !tells(told[0], q) {
		return "", api.ErrArg
	}
	return text, api.OK
}

func textOf(q api.Request) string {
	var out strings.Builder
	out.WriteString(q.Method + " " + q.Target + " " + newest + lineEnd)
	for _, h := range q.Headers {
		out.WriteString(h.Key + ": " + h.Value + lineEnd)
	}
	out.WriteString(lineEnd + q.Body)
	return out.String()
}

// tells holds an event to a request; one that tells a status has none.
func tells(e api.Event, q api.Request) bool {
	return e.Bad == 0 && e.Request.Method == q.Method && e.Request.Target == q.Target &&
		slices.Equal(e.Request.Headers, q.Headers) && e.Request.Body == q.Body && e.Request.Keep == q.Keep
}
