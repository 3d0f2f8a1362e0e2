package plc

import (
	"slices"

	"relay/api"
	"relay/bound"
	"relay/image"
	"relay/layout"
)

// linked is the image of a project and its typed codes, which the front has found sound, or what is at fault in it.
func linked(p api.Project, codes []api.Code) (api.Image, []api.Diag) {
	l, pou, why := flats(codes)
	if why != api.OK {
		u := p.Pous[pou]
		return noImage(u.Source, u.At, why)
	}
	cells, _, _ := layout.Cells(p)
	m := api.Image{Name: p.Name, Cells: cells, Codes: l, Jobs: jobsOf(p)}
	jobs, task, why := bounded(m)
	if why != api.OK {
		return noImage(p.Source, p.Tasks[task].At, why)
	}
	m.Jobs = jobs
	if _, _, why := image.Check(m); why != api.OK {
		return noImage(p.Source, 0, why)
	}
	return m, nil
}

func noImage(source, at int, why api.Errno) (api.Image, []api.Diag) {
	return api.Image{}, []api.Diag{{Source: source, Fault: api.Fault{At: at, Why: why}}}
}

// jobsOf is the tasks of a project, without their bounds.
func jobsOf(p api.Project) []api.Job {
	var l []api.Job
	for _, t := range p.Tasks {
		j := api.Job{Name: t.Name, Interval: t.Interval, Single: -1, Priority: t.Priority}
		if cell, _, is := layout.Global(p, t.Single); is {
			j.Single = cell
		}
		for i, r := range p.Runs {
			if r.Task == t.Name {
				code, _ := layout.Pou(p, r.Pou)
				base, _ := layout.Run(p, i)
				j.Codes, j.Bases = append(j.Codes, code), append(j.Bases, base)
			}
		}
		l = append(l, j)
	}
	return l
}

// bounded is an image's tasks with their bounds; else the first one that has none, or whose calls lie too deep in one another, and why.
func bounded(m api.Image) ([]api.Job, int, api.Errno) {
	jobs, at, why := bound.Jobs(m)
	sound := m.Jobs
	if why != api.OK {
		sound = sound[:at]
	}
	if deep := slices.IndexFunc(sound, func(j api.Job) bool { return isDeep(m, j) }); deep >= 0 {
		return nil, deep, api.ErrGreat
	}
	return jobs, at, why
}

// isDeep tells whether runs of a task's programs lie deeper in one another than they may.
func isDeep(m api.Image, j api.Job) bool {
	return slices.ContainsFunc(j.Codes, func(code int) bool {
		deep, _, _ := bound.Depth(m.Codes, code)
		return deep > api.MaxCalls
	})
}
