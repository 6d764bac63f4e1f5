package session

import (
	"strings"

	"overhaul/api"
	"overhaul/journal"
	"overhaul/show"
)

// player: a runner whose commands last on a disk.
type player struct {
	runner
	disk api.Disk
	held []string // commands as texts that were done, and are not on the disk yet
}

// play a text: the answer; an error, if what was done does not come onto the disk.
func (p *player) play(s string) (api.Answer, api.Errno) {
	c, a := p.run(s)
	if f := p.keep(c); f != api.OK {
		return api.Answer{}, f
	}
	return a, api.OK
}

// keep what was done: it comes onto the disk at once, or when its transaction ends.
func (p *player) keep(c api.Cmd) api.Errno {
	switch {
	case c.Kind == api.CmdRollback:
		p.held = nil
	case c.Kind >= api.CmdCreate && c.Kind <= api.CmdUpdate:
		s, f := show.Show(c)
		if f != api.OK {
			return f
		}
		p.held = append(p.held, s)
	}
	if p.Within || len(p.held) == 0 {
		return api.OK
	}
	return p.appendHeld()
}

// appendHeld: what is held, as one text, so that all of it lasts or none.
func (p *player) appendHeld() api.Errno {
	d, _, f := journal.Append(p.disk, strings.Join(p.held, "\n"))
	if f != api.OK {
		return f
	}
	p.disk, p.held = d, nil
	return api.OK
}
