package token

import "ingot/api"

// grant is what a token stands for: whose it is, up to when, and whether it was taken back.
type grant struct {
	user  string
	until int
	back  bool
}

// use is what somebody has in mind with a token.
type use int

const (
	toShow use = iota
	toTakeBack
)

// state tells what speaks against a use of a token.
func (g grant) state(u use, now int) api.Errno {
	e := api.OK
	switch u {
	case toShow:
		if now >= g.until {
			e = api.ErrExpired
		}
		fallthrough // a token that was taken back can be neither shown nor taken back; that it was is told first
	case toTakeBack:
		if g.back {
			e = api.ErrRevoked
		}
	}
	return e
}
