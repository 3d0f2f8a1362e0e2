package plc

import (
	"relay/api"
	"relay/meaning"
	"relay/tasks"
)

// mostRules is how many rules a program's run takes at most.
const mostRules = 1 << 26

// meant is a resource whose programs are what their typed codes mean.
func meant(m api.Image, codes []api.Code) *tasks.Resource {
	return tasks.New(m.Cells, m.Jobs, func(code, base, now int, mem []api.Value, _ int) ([]api.Value, int, int) {
		after, _, fault := meaning.Run(codes, code, base, now, m.Cells, mem, mostRules)
		return after, 0, fault
	})
}

// resource is what is played: what runs an image, or what its sources mean.
type resource interface {
	Start() api.Errno
	Entry(advance int, inputs []api.Input) (api.Report, api.Errno)
}

// played starts a new resource, and gives it the entries of a script: a report of each; else the first one that can't be, and why.
func played(r resource, script []api.Entry) ([]api.Report, int, api.Errno) {
	if why := r.Start(); why != api.OK {
		return nil, 0, why
	}
	var l []api.Report
	for i, e := range script {
		report, why := r.Entry(e.Advance, e.Inputs)
		if why != api.OK {
			return nil, i, why
		}
		l = append(l, report)
	}
	return l, 0, api.OK
}
