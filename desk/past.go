package desk

import (
	"slices"

	"relay/api"
)

// past is what was done with a resource since it was as a new one: its starts, and the ticks behind them with what they came to.
type past struct {
	starts  int
	isOther bool // what no script of entries from one start on can tell was done, too
	script  []api.Entry
	reports []api.Report
}

// isMeant tells whether a script of entries from one start on tells all that was done.
func (p *past) isMeant() bool { return p.starts == 1 && !p.isOther }

// add is a tick.
func (p *past) add(e api.Entry, report api.Report) {
	if p.starts == 0 {
		p.isOther = true
	}
	if !p.isMeant() {
		return
	}
	p.script, p.reports = append(p.script, e), append(p.reports, report)
}

// same tells whether two reports tell the same, Steps aside.
func same(a, b api.Report) bool {
	return slices.Equal(a.Ran, b.Ran) && slices.Equal(a.Outputs, b.Outputs) && a.Mode == b.Mode && a.Fault == b.Fault && a.In == b.In && slices.Equal(a.Over, b.Over)
}
