package axis

import (
	"servitor/api"
	"servitor/home"
	"servitor/line"
	"servitor/q"
	"servitor/state"
)

// take a command, or refuse it.
func (c *cycle) take(d api.Command) {
	l, ids, ok := c.added(d)
	if !ok {
		c.tell(d.ID, api.Refused)
		return
	}
	c.Line = l
	c.aborted(ids)
	if len(l.Wait) == 0 {
		c.begin()
	}
}

// added: the line with a command, and the IDs of those that it aborts; false: it is refused.
func (c *cycle) added(d api.Command) (api.Line, []int, bool) {
	if c.fresh || !c.mayCome(d) || !c.mayWait(d) || !c.mayGo(d) {
		return api.Line{}, nil, false
	}
	if isMove(d.Kind) {
		place, ok := c.place(d)
		if !ok || !isPlace(c.Axis, place) {
			return api.Line{}, nil, false
		}
		d.Kind, d.Target = api.CmdAbs, place
	}
	// A Mode that is none, and a line without room, are refused here.
	l, ids, e := line.Add(c.Line, d)
	return l, ids, e == api.OK
}

// mayCome: is a command's kind one that is taken in this state?
func (c *cycle) mayCome(d api.Command) bool {
	switch d.Kind {
	case api.CmdHome:
		return c.State == api.Standstill
	case api.CmdStop:
		return c.State == api.Homing || state.Takes(c.State)
	}
	return within(d.Kind, api.CmdAbs, api.CmdGear) && state.Takes(c.State)
}

// mayWait: if it doesn't abort, are it and the command under way both moves to a place?
func (c *cycle) mayWait(d api.Command) bool {
	return d.Mode == api.Aborting || isMove(d.Kind) && (!c.busy() || c.now().Kind == api.CmdAbs)
}

// mayGo: are a command's speed and ratio such as the axis may have, and is it homed, if it must be?
func (c *cycle) mayGo(d api.Command) bool {
	switch d.Kind {
	case api.CmdAbs:
		return c.Homed && within(d.Speed, 1, c.Limits.Vel)
	case api.CmdRel, api.CmdAdd:
		return within(d.Speed, 1, c.Limits.Vel)
	case api.CmdSpeed:
		return isVelocity(c.Axis, d.Speed)
	case api.CmdGear:
		return d.Den >= 1
	}
	return true
}

// place to which a move goes; false: it has no room.
func (c *cycle) place(d api.Command) (int64, bool) {
	if d.Kind == api.CmdAbs {
		return d.Target, true
	}
	return q.Add(c.base(d), d.Target)
}

// base is the place from which a move by a way is counted.
func (c *cycle) base(d api.Command) int64 {
	if c.busy() && d.Mode != api.Aborting {
		last, _ := line.Last(c.Line)
		return last.Target
	}
	if c.busy() && d.Kind == api.CmdAdd && c.now().Kind == api.CmdAbs {
		return c.now().Target
	}
	return c.Gen.Pos
}

// begin the command that is under way now.
func (c *cycle) begin() {
	d := c.now()
	c.tell(d.ID, api.Active)
	c.happen(begins(d.Kind))
	switch d.Kind {
	case api.CmdHome:
		// No error: a right axis has the speeds of a search.
		c.Home, _ = home.New(c.Fast, c.Creep)
		c.Homed = false
	case api.CmdGear:
		c.Start, c.Master, c.InStep = c.Gen.Pos, c.in.Master, true
	}
}

// begins: what happens as a command of a kind begins.
func begins(kind int) int {
	switch kind {
	case api.CmdSpeed:
		return api.EvSpeed
	case api.CmdStop:
		return api.EvStop
	case api.CmdHome:
		return api.EvHome
	case api.CmdGear:
		return api.EvSync
	}
	return api.EvMove
}

// isMove: is a command of a kind one to a place?
func isMove(kind int) bool { return within(kind, api.CmdAbs, api.CmdAdd) }
