package session

import (
	"overhaul/api"
	"overhaul/command"
	"overhaul/engine"
	"overhaul/tick"
)

// background: the text that is no command's, but a step in the background.
const background = "tick"

// runner of texts: its engine has no fault, so that no step of it has an Errno of its own.
type runner struct{ api.Engine }

// run a text: the command that was done (of no kind, if none was), and the answer.
func (r *runner) run(s string) (api.Cmd, api.Answer) {
	if s == background {
		return api.Cmd{}, r.tick()
	}
	c, _, f := command.Parse(s)
	if f != api.OK {
		return api.Cmd{}, api.Answer{Errno: f}
	}
	var a api.Answer
	r.Engine, a, _ = engine.Do(r.Engine, c)
	if a.Errno != api.OK {
		return api.Cmd{}, a
	}
	return c, a
}

func (r *runner) tick() api.Answer {
	var is bool
	r.Engine, is, _ = tick.Tick(r.Engine)
	if is {
		return api.Answer{Many: 1}
	}
	return api.Answer{}
}

func (r *runner) clean() { r.Engine, _, _ = tick.Clean(r.Engine) }
