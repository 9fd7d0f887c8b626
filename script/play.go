package script

import (
	"strconv"
	"strings"

	"ingot/api"
	"ingot/disk"
	"ingot/hash"
	"ingot/octet"
	"ingot/server"
)

const mostKept = 64 // writes that a crash may name

// verb is what is known of one.
type verb struct {
	least, most int // how many numbers it has
	hasText     bool
	do          func(p *play, s Step) string // tells what stands behind the verb in the account
}

func verbs() map[string]verb {
	return map[string]verb{
		"disk":  {least: 1, most: 1, do: (*play).newDisk},
		"feed":  {least: 1, most: 1, hasText: true, do: (*play).feed},
		"pick":  {least: 2, most: 2, do: (*play).pick},
		"all":   {least: 1, most: 1, do: (*play).pickAll},
		"show":  {least: 1, most: 1, do: (*play).show},
		"arm":   {least: 1, most: 1, do: (*play).arm},
		"crash": {least: 0, most: mostKept, do: (*play).crash},
		"done":  {do: (*play).showDone},
		"dump":  {do: (*play).showDump},
	}
}

// play is a script that is under way.
type play struct {
	disk   *disk.Disk
	server *server.Server
}

// Play plays one, and tells the account.
func Play(text string) (string, error) {
	steps, err := Parse(text)
	if err != nil {
		return "", err
	}
	p, known := &play{}, verbs()
	var out strings.Builder
	for _, s := range steps {
		out.WriteString(s.Verb + known[s.Verb].do(p, s) + lineEnd)
	}
	return out.String(), nil
}

func errorText(e api.Errno) string { return blank + strconv.Itoa(int(e)) }

func (p *play) newDisk(s Step) string {
	var e, opened api.Errno
	p.disk, e = disk.New(s.N[0])
	p.server, opened = server.Open(p.disk, nil)
	if e == api.OK {
		e = opened
	}
	return errorText(e)
}

func (p *play) feed(s Step) string {
	return errorText(p.server.Feed(s.N[0], []byte(s.Text)))
}

func (p *play) pick(s Step) string {
	if !p.server.Pick(s.N[0], s.N[1]) {
		return " no"
	}
	return blank + strconv.Itoa(p.server.Phase(s.N[0]))
}

func (p *play) pickAll(s Step) string {
	all := 0
	for {
		n := p.pickRound(s.N[0])
		if n == 0 {
			return blank + strconv.Itoa(all)
		}
		all += n
	}
}

// pickRound picks each worker once, and tells how many went on.
func (p *play) pickRound(now int) int {
	n := 0
	for worker := range api.MaxWorkers {
		if p.server.Pick(worker, now) {
			n++
		}
	}
	return n
}

func (p *play) show(s Step) string {
	return blank + Escape(p.server.Take(s.N[0]))
}

func (p *play) arm(s Step) string { return errorText(p.disk.Arm(s.N[0])) }

func (p *play) crash(s Step) string {
	p.server = nil
	e := p.disk.Restart(s.N)
	if e == api.OK {
		p.server, e = server.Open(p.disk, nil)
	}
	return errorText(e)
}

func (p *play) showDone(Step) string {
	var out strings.Builder
	for _, d := range p.server.Done() {
		out.WriteString(blank)
		for i, n := range [...]int{d.Conn, d.Tick, d.Call.Kind, d.Status} {
			if i > 0 {
				out.WriteString(":")
			}
			out.WriteString(strconv.Itoa(n))
		}
	}
	return out.String()
}

func (p *play) showDump(Step) string {
	var b []byte
	for _, pair := range p.server.Dump() {
		b = append(b, octet.PutText(nil, pair.Key)...)
		b = append(b, octet.PutText(nil, pair.Value)...)
	}
	sum := hash.Sum(b)
	return blank + hash.Hex(sum[:])
}
