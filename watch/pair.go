package watch

import (
	"slices"

	"relay/api"
	"relay/sched"
)

// nobody leads where both sides are down.
const nobody = -1

// Pair is two resources over one image, of which one follows the other.
type Pair struct {
	sides [2]*sched.Resource // none, if no call made it
	isUp  [2]bool
	leads int
	queue []api.Entry // what the leader did, and the other side did not yet
}

// Twin is a pair of which the first leads; Entry is the leader's; Follow lets the other side do so many entries that it has not done yet: how many; Down takes a side down; Leads tells which side leads (-1: none).
func Twin(m api.Image) (*Pair, api.Errno) {
	x := &Pair{}
	for side := range x.sides {
		r, why := sched.New(m)
		if why != api.OK {
			return nil, why
		}
		x.sides[side], x.isUp[side] = r, true
	}
	return x, api.OK
}

func (x *Pair) isMade() bool { return x != nil && x.sides[0] != nil }

func (x *Pair) Start() api.Errno {
	switch {
	case !x.isMade():
		return api.ErrNil
	case x.leads == nobody:
		return api.ErrSide
	}
	why := x.sides[x.leads].Start()
	if other, is := x.follower(); is && why == api.OK {
		x.Follow(len(x.queue))
		other.Start()
	}
	return why
}

func (x *Pair) Entry(advance int, inputs []api.Input) (api.Report, api.Errno) {
	switch {
	case !x.isMade():
		return api.Report{}, api.ErrNil
	case x.leads == nobody:
		return api.Report{}, api.ErrSide
	}
	report, why := x.sides[x.leads].Entry(advance, inputs)
	if _, is := x.follower(); is && why == api.OK {
		if len(x.queue) == api.MaxQueue {
			x.Follow(1)
		}
		x.queue = append(x.queue, api.Entry{Advance: advance, Inputs: slices.Clone(inputs)})
	}
	return report, why
}

// follower is the side that follows a leader, if there is one.
func (x *Pair) follower() (*sched.Resource, bool) {
	if x.leads == nobody || !x.isUp[1-x.leads] {
		return nil, false
	}
	return x.sides[1-x.leads], true
}

func (x *Pair) Follow(n int) int {
	if !x.isMade() {
		return 0
	}
	other, is := x.follower()
	if !is {
		return 0
	}
	n = min(max(n, 0), len(x.queue))
	for _, e := range x.queue[:n] {
		other.Entry(e.Advance, e.Inputs)
	}
	x.queue = slices.Delete(x.queue, 0, n)
	return n
}

func (x *Pair) Down(side int) api.Errno {
	switch {
	case !x.isMade():
		return api.ErrNil
	case side != 0 && side != 1:
		return api.ErrArg
	case !x.isUp[side]:
		return api.ErrSide
	}
	if side == x.leads {
		x.handOver()
	}
	x.isUp[side] = false
	x.queue = nil
	return api.OK
}

// handOver lets the other side lead, if it is up, once it has done what the leader did.
func (x *Pair) handOver() {
	if _, is := x.follower(); !is {
		x.leads = nobody
		return
	}
	x.Follow(len(x.queue))
	x.leads = 1 - x.leads
}

func (x *Pair) Leads() int {
	if !x.isMade() {
		return nobody
	}
	return x.leads
}

func (x *Pair) Cells(side int) []api.Value {
	if !x.isMade() || side != 0 && side != 1 {
		return nil
	}
	return x.sides[side].Cells()
}
