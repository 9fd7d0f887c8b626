package octet

import "ingot/api"

// place is where a reader stands: its bytes, and how many of them were read.
type place struct {
	bytes []byte
	at    int
}

func (p *place) left() int { return len(p.bytes) - p.at }

// take goes over n bytes, of which the caller knows that they are left.
func (p *place) take(n int) []byte {
	from := p.at
	p.at += n
	return p.bytes[from:p.at]
}

// number tells the number that stands here, and of how many bytes. It does not go over them: what is found behind them may still be an error, and the place stays then.
func (p *place) number() (uint64, int, api.Errno) {
	var n uint64
	for i := range mostBytes {
		if i == p.left() {
			return 0, 0, api.ErrShort
		}
		c := p.bytes[p.at+i]
		if i == mostBytes-1 && c > mostLast {
			return 0, 0, api.ErrForm
		}
		n |= uint64(c&^more) << (groupBits * i)
		if c < more {
			return ended(n, i+1, c)
		}
	}
	return 0, 0, api.ErrForm
}

// ended refuses a number whose last byte adds nothing, so that each number has one form.
func ended(n uint64, size int, last byte) (uint64, int, api.Errno) {
	if last == 0 && size > 1 {
		return 0, 0, api.ErrForm
	}
	return n, size, api.OK
}
