package axis

import (
	"cmp"

	"servitor/api"
	"servitor/gear"
	"servitor/gen"
	"servitor/home"
	"servitor/line"
	"servitor/q"
	"servitor/smooth"
	"servitor/state"
)

// cycle is an axis on its way through one, what comes in it, and what was told by now.
type cycle struct {
	api.Axis
	in     api.In
	told   []api.Report
	fresh  bool // it was let go or switched on in this cycle, and takes no commands in it
	passed bool // the place of the move under way was come to in this cycle, and shall be gone by
}

// Step: a cycle.
func Step(a api.Axis, in api.In) (api.Axis, []api.Report) {
	c := cycle{Axis: again(a), in: in}
	if !Right(a) {
		return c.Axis, nil
	}
	c.Override = int(q.Clamp(int64(in.Override), 0, 100))
	c.turn()
	for _, d := range in.Commands {
		c.take(d)
	}
	c.advance()
	c.end()
	return c.Axis, c.told
}

// turn is what comes ahead of all commands: a cause, or a reset, or power.
func (c *cycle) turn() {
	cause := c.cause()
	switch {
	case c.State == api.ErrorStop:
		c.reset()
	case cause != api.CauseNone:
		c.fail(cause)
	case c.State == api.Disabled && c.in.Power && c.in.Op:
		c.on()
	case c.State != api.Disabled && !c.in.Power:
		c.off()
	}
}

// cause of an error of an axis that isn't in ErrorStop.
func (c *cycle) cause() int {
	switch {
	case c.State == api.Disabled && c.in.Cause != api.CauseScan:
		return api.CauseNone
	case c.in.Cause != api.CauseNone:
		return c.in.Cause
	case c.in.Power && !c.in.Op:
		return api.CauseDrive
	case c.State != api.Homing && c.runsOut():
		return api.CauseSwitch
	}
	return api.CauseNone
}

// runsOut: does the switch show at the end towards which it goes?
func (c *cycle) runsOut() bool {
	return c.in.Plus && c.Gen.Vel > 0 || c.in.Minus && c.Gen.Vel < 0
}

// fail by a cause.
func (c *cycle) fail(cause int) {
	c.leave(api.Failed)
	c.abort()
	c.happen(api.EvError)
	c.Cause = cause
}

// reset lets it out of ErrorStop, once nothing is wrong any more.
func (c *cycle) reset() {
	if c.in.Reset && c.in.Op && c.in.Cause == api.CauseNone && still(c.Axis) {
		c.happen(api.EvReset)
		c.Cause = api.CauseNone
		c.fresh = true
	}
}

// off is power that is taken away.
func (c *cycle) off() {
	c.abort()
	c.happen(api.EvOff)
	c.Axis = at(c.Axis, c.Gen.Pos)
}

// on is power that comes, if there is a place, and an Offset, for where the drive is.
func (c *cycle) on() {
	seen, ok := q.Sub(c.in.Actual, c.Offset)
	if !ok {
		return
	}
	pos := q.Clamp(seen, -api.MaxPos, api.MaxPos)
	offset, ok := q.Sub(c.in.Actual, pos)
	if !ok || !isOffset(offset) {
		return
	}
	c.happen(api.EvPower)
	c.Axis = at(c.Axis, pos)
	c.Homed = c.Homed && within(seen, c.Limits.Lo, c.Limits.Hi)
	c.Offset = offset
	c.fresh = true
}

// advance is the step of the generator, and of the window.
func (c *cycle) advance() {
	if c.State != api.Disabled {
		from := c.Gen.Pos
		v := c.wanted()
		c.Gen = gen.Step(Bounds(c.Axis), c.Gen, v)
		c.passed = c.passes(from)
	}
	c.Smooth = smooth.Push(c.Smooth, c.Gen.Pos)
}

// wanted speed.
func (c *cycle) wanted() int64 {
	switch c.State {
	case api.Discrete:
		return c.toPlace()
	case api.Continuous:
		return c.part(c.now().Speed)
	case api.Synced:
		d := c.now()
		v, ok := gear.Want(Bounds(c.Axis), c.Gen, c.Start, c.Master, c.in.Master, d.Num, d.Den)
		c.InStep = ok
		return v
	case api.Homing:
		h, v := home.Step(c.Home, c.in.Home, c.in.Plus, c.in.Minus, c.Gen.Vel == 0)
		c.Home = h
		return v
	}
	return 0
}

// toPlace is the speed that is wanted in Discrete.
func (c *cycle) toPlace() int64 {
	d := c.now()
	if d.Kind != api.CmdAbs {
		return 0
	}
	if next, ok := c.blends(c.Gen.Pos); ok {
		return gen.By(Bounds(c.Axis), c.Gen, d.Target, joint(d, next), next.Target, c.part(d.Speed))
	}
	return gen.To(Bounds(c.Axis), c.Gen, d.Target, c.part(d.Speed))
}

// part of a speed, by Override, towards 0.
func (c *cycle) part(v int64) int64 { return v * int64(c.Override) / 100 }

// blends: the command that waits, and whether the move under way goes by its own place to that one's, seen from a place.
func (c *cycle) blends(from int64) (api.Command, bool) {
	next, ok := line.Next(c.Line)
	return next, ok && next.Mode >= api.BlendLow && beyond(from, c.now().Target, next.Target)
}

// passes: has the step from a place come to, or beyond, the place of a move that goes by it?
func (c *cycle) passes(from int64) bool {
	if c.State != api.Discrete {
		return false
	}
	_, ok := c.blends(from)
	t := c.now().Target
	return ok && cmp.Compare(t, c.Gen.Pos) != cmp.Compare(t, from)
}

// end of a cycle: what is done in it.
func (c *cycle) end() {
	switch c.State {
	case api.Discrete:
		c.endMove()
	case api.Stopping:
		c.endStop()
	case api.Homing:
		c.endHome()
	}
}

// endMove ends a move, for which the next one begins.
func (c *cycle) endMove() {
	d := c.now()
	if !c.passed && !(still(c.Axis) && (d.Kind == api.CmdHalt || c.Gen.Pos == d.Target)) {
		return
	}
	c.leave(api.Done)
	if c.busy() {
		c.begin()
	} else {
		c.happen(api.EvDone)
	}
}

// endStop ends a stop, and then the state, once it may end.
func (c *cycle) endStop() {
	switch {
	case !still(c.Axis):
	case c.busy():
		c.leave(api.Done)
	case c.in.Release:
		c.happen(api.EvStopped)
	}
}

// endHome ends a search.
func (c *cycle) endHome() {
	switch {
	case c.Home.Phase == api.HomeFail:
		c.fail(api.CauseHome)
	case c.Home.Phase == api.HomeDone && still(c.Axis):
		c.homed()
	}
}

// homed: the home place was found, and the axis stands there.
func (c *cycle) homed() {
	a, ok := shifted(c.Axis, c.HomeAt)
	if !ok {
		c.fail(api.CauseHome)
		return
	}
	c.Axis = a
	c.Homed = true
	c.leave(api.Done)
	c.happen(api.EvHomed)
}

// happen: the state goes where that leads.
func (c *cycle) happen(event int) { c.State, _ = state.Next(c.State, event) }

// tell what became of a command.
func (c *cycle) tell(id, what int) { c.told = append(c.told, api.Report{ID: id, What: what}) }

// busy: is a command under way?
func (c *cycle) busy() bool { return len(c.Line.Now) > 0 }

// now is the command under way; there must be one.
func (c *cycle) now() api.Command { return c.Line.Now[0] }

// leave: the command under way, if there is one, leaves the line.
func (c *cycle) leave(what int) {
	if c.busy() {
		l, id := line.End(c.Line)
		c.Line = l
		c.tell(id, what)
	}
}

// abort all commands.
func (c *cycle) abort() {
	l, ids := line.Clear(c.Line)
	c.Line = l
	c.aborted(ids)
}

// aborted commands are told.
func (c *cycle) aborted(ids []int) {
	for _, id := range ids {
		c.tell(id, api.Aborted)
	}
}

// beyond: seen from a place, does one lie behind another one?
func beyond(from, t, behind int64) bool {
	return from < t && t < behind || from > t && t > behind
}

// joint is the speed at which one move goes over into the next, by the mode of that.
func joint(d, next api.Command) int64 {
	switch next.Mode {
	case api.BlendLow:
		return min(d.Speed, next.Speed)
	case api.BlendPrev:
		return d.Speed
	case api.BlendNext:
		return next.Speed
	}
	return max(d.Speed, next.Speed)
}
