package route

import (
	"strconv"
	"strings"

	"ingot/api"
	"ingot/names"
)

// The words of a shape that stand for something else.
const (
	orgWord     = "ORG"
	channelWord = "CHANNEL"
	argWord     = "ARG"
	idWord      = "ID"
	pathWord    = "PATH"
)

const (
	mostArg = api.MaxPath * 2 // bytes of a part of ARG
	mostId  = 1<<31 - 1
)

// takers tells by its word what takes a part into a call; false, if the part is not what the word stands for.
func takers() map[string]func(c *api.Call, part string) bool {
	return map[string]func(c *api.Call, part string) bool{
		orgWord: func(c *api.Call, part string) bool {
			c.Org = part
			return names.Name(part)
		},
		channelWord: func(c *api.Call, part string) bool {
			c.Channel = part
			return names.Name(part)
		},
		argWord: func(c *api.Call, part string) bool {
			c.Arg = part
			return 1 <= len(part) && len(part) <= mostArg
		},
		idWord: func(c *api.Call, part string) bool {
			id, is := idOf(part)
			c.Id = id
			return is
		},
		pathWord: func(c *api.Call, part string) bool {
			c.Arg = part
			return names.Path(part)
		},
	}
}

// idOf reads a number. What is written otherwise than it would be, with a sign or noughts ahead, is none.
func idOf(part string) (int, bool) {
	id, err := strconv.Atoi(part)
	if err != nil || id < 1 || id > mostId || strconv.Itoa(id) != part {
		return 0, false
	}
	return id, true
}

// take takes all parts that stand for something into a call; false, if one is not what its word stands for.
func (r row) take(c *api.Call, parts []string) bool {
	takes := takers()
	for i, word := range r.words() {
		if take, stands := takes[word]; stands && !take(c, parts[i]) {
			return false
		}
	}
	return true
}

// givers tells by its word what gives the part of a call that stands there.
func givers() map[string]func(c api.Call) string {
	return map[string]func(c api.Call) string{
		orgWord:     func(c api.Call) string { return c.Org },
		channelWord: func(c api.Call) string { return c.Channel },
		argWord:     func(c api.Call) string { return c.Arg },
		idWord:      func(c api.Call) string { return strconv.Itoa(c.Id) },
		pathWord:    func(c api.Call) string { return c.Arg },
	}
}

// target writes the row's target for a call.
func (r row) target(c api.Call) string {
	gives := givers()
	var out strings.Builder
	for _, word := range r.words() {
		out.WriteString(slash)
		if give, stands := gives[word]; stands {
			word = give(c)
		}
		out.WriteString(word)
	}
	return out.String()
}
