package server

import (
	"math"

	"ingot/api"
	"ingot/octet"
)

const mostNumber = 1 << 60 // of those in a call's bytes

// bytesOf tells a call's bytes, with its tick.
func bytesOf(c api.Call, tick int) string {
	var b []byte
	for _, n := range []int{tick, c.Kind, c.Id} {
		b = octet.Put(b, uint64(n))
	}
	for _, text := range []string{c.Token, c.Org, c.Channel, c.Arg} {
		b = octet.PutText(b, text)
	}
	b = octet.Put(b, uint64(len(c.Form)))
	for _, p := range c.Form {
		b = octet.PutText(octet.PutText(b, p.Key), p.Value)
	}
	return string(b)
}

// reader reads a call's bytes. What is not there reads as nothing; that something was wrong is asked at the end.
type reader struct {
	*octet.Reader
	wrong bool
}

func (r *reader) number(most uint64) int {
	n, e := r.Uint()
	if e != api.OK || n > most {
		r.wrong = true
		return 0
	}
	return int(n)
}

func (r *reader) text() string {
	text, e := r.Text(math.MaxInt)
	r.wrong = r.wrong || e != api.OK
	return text
}

// callOf reads a call and its tick, if the bytes are a call's.
func callOf(bytes string) (c api.Call, tick int, is bool) {
	r := &reader{Reader: octet.Over([]byte(bytes))}
	tick = r.number(api.MaxTime)
	c.Kind, c.Id = r.number(mostNumber), r.number(math.MaxInt32)
	c.Token, c.Org, c.Channel, c.Arg = r.text(), r.text(), r.text(), r.text()
	pairs := r.number(uint64(r.Left()))
	for i := 0; i < pairs && !r.wrong; i++ {
		c.Form = append(c.Form, api.Pair{Key: r.text(), Value: r.text()})
	}
	if r.wrong || r.End() != api.OK {
		return api.Call{}, 0, false
	}
	return c, tick, true
}
