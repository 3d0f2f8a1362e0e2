package desk

import (
	"slices"
	"strings"

	"relay/api"
	"relay/plc"
	"relay/sched"
	"relay/value"
)

// What must be there for a command.
const (
	nothing = iota
	anImage
	aResource
)

// dirInput is which way an input cell's value goes.
const dirInput = 1

// command is how many words it wants behind its own, what must be there, and what it does with these words.
type command struct {
	words    int
	isText   bool // all that stands behind its own word is one
	isNumber bool // the word is a number
	wants    int
	does     func(d *desk, words []string) (string, error)
}

func commands() map[string]command {
	return map[string]command{
		"source":  {words: 1, isText: true, does: (*desk).source},
		"compile": {does: (*desk).compile},
		"load":    {wants: anImage, does: (*desk).load},
		"start":   {wants: aResource, does: (*desk).start},
		"stop":    {wants: aResource, does: (*desk).stop},
		"cold":    {wants: aResource, does: (*desk).cold},
		"warm":    {wants: aResource, does: (*desk).warm},
		"set":     {words: 2, wants: aResource, does: (*desk).set},
		"tick":    {words: 1, isNumber: true, wants: aResource, does: (*desk).tick},
		"outputs": {wants: aResource, does: (*desk).outputs},
		"cell":    {words: 1, isNumber: true, wants: aResource, does: (*desk).cell},
		"mean":    {wants: aResource, does: (*desk).mean},
	}
}

func (d *desk) source(words []string) (string, error) {
	if len(d.sources) == api.MaxSources {
		return "", api.ErrLong
	}
	d.sources = append(d.sources, strings.ReplaceAll(words[0], "^", "\n"))
	return joined("source", digits(len(d.sources))), nil
}

func (d *desk) compile([]string) (string, error) {
	m, faults := plc.Compile(d.sources)
	d.project, d.resource = nil, nil
	if len(faults) > 0 {
		var l []string
		for _, f := range faults {
			l = append(l, digits(f.Source), digits(f.Fault.At), digits(int(f.Fault.Why)))
		}
		return joined("at", l...), nil
	}
	d.project = &project{slices.Clone(d.sources), m}
	return joined("image", digits(len(m.Cells)), digits(len(m.Codes)), digits(len(m.Jobs))), nil
}

func (d *desk) load([]string) (string, error) {
	r, why := sched.New(d.project.image)
	if why != api.OK {
		return "", why
	}
	d.resource, d.past = r, past{}
	return "loaded", nil
}

func (d *desk) start([]string) (string, error) {
	why := d.resource.Start()
	if why == api.OK {
		d.past.starts++
	}
	return d.mode(why)
}

func (d *desk) stop([]string) (string, error) {
	why := d.resource.Stop()
	if why == api.OK {
		d.past.isOther = true
	}
	return d.mode(why)
}

func (d *desk) cold([]string) (string, error) {
	why := d.resource.Reset(false)
	if why == api.OK && d.resource.Now() == 0 {
		d.past = past{}
	}
	return d.mode(why)
}

func (d *desk) warm([]string) (string, error) {
	why := d.resource.Reset(true)
	if why == api.OK {
		d.past.isOther = true
	}
	return d.mode(why)
}

// mode is the answer of a call that leads to a mode.
func (d *desk) mode(why api.Errno) (string, error) {
	if why != api.OK {
		return "", why
	}
	return modeWord(d.resource.Mode()), nil
}

func (d *desk) set(words []string) (string, error) {
	cells := d.project.image.Cells
	at := slices.IndexFunc(cells, func(c api.Cell) bool { return c.Dir == dirInput && c.Addr == words[0] })
	if at < 0 {
		return "", api.ErrThing
	}
	v, is := valueOf(cells[at].Kind, words[1])
	if !is {
		return "", api.ErrRange
	}
	d.inputs = append(d.inputs, api.Input{Addr: words[0], Value: v})
	return "set", nil
}

func (d *desk) tick(words []string) (string, error) {
	advance, _ := read(words[0])
	report, why := d.resource.Entry(advance, d.inputs)
	if why != api.OK {
		return "", why
	}
	d.past.add(api.Entry{Advance: advance, Inputs: d.inputs}, report)
	d.inputs = nil
	if report.Fault != api.FaultNone {
		return joined("failed", digits(report.Fault), report.In), nil
	}
	return joined("ran", report.Ran...), nil
}

func (d *desk) outputs([]string) (string, error) {
	var l []string
	for _, o := range d.resource.Outputs() {
		l = append(l, o.Addr+"="+value.Print(o.Value))
	}
	return joined("out", l...), nil
}

func (d *desk) cell(words []string) (string, error) {
	cells := d.resource.Cells()
	n, _ := read(words[0])
	if n < 0 || n >= len(cells) {
		return "", api.ErrArg
	}
	return value.Word(cells[n].Kind) + "=" + value.Print(cells[n]), nil
}

func (d *desk) mean([]string) (string, error) {
	if !d.past.isMeant() {
		return "", api.ErrState
	}
	reports, faults := plc.Mean(d.project.sources, d.past.script)
	if len(faults) == 0 && slices.EqualFunc(reports, d.past.reports, same) {
		return "same", nil
	}
	return "other", nil
}
