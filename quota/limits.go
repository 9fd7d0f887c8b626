package quota

import "ingot/api"

// limits are api's under names that stay inside: nobody but the meter's own calls may set what it embeds.
type limits struct{ bytes, rate, window int }

// limit takes limits over, if they may be.
func (l *limits) limit(from api.Limits) api.Errno {
	if !mayBe(from.Bytes, 0) || !mayBe(from.Rate, 0) || !mayBe(from.Window, 1) {
		return api.ErrArg
	}
	*l = limits{bytes: from.Bytes, rate: from.Rate, window: from.Window}
	return api.OK
}

func mayBe(n, least int) bool { return least <= n && n <= api.MaxTime }

// windowOf tells the window of a time from 0 on.
func (l *limits) windowOf(now int) int { return now / l.window }
