package decl

import "relay/api"

const (
	intervalName = "INTERVAL"
	singleName   = "SINGLE"
	priorityName = "PRIORITY"
	maxPriority  = 65535
)

// configuration reads the configuration behind its first word.
func (p *parser) configuration() {
	name := p.name()
	must(!p.isSet, name.At, api.ErrTwice)
	p.sections(&p.globals)
	p.want("RESOURCE")
	p.project.Name, p.project.Source = p.name().Text, p.source
	p.want("ON")
	p.name()
	p.sections(&p.globals)
	tasks := map[string]int{}
	for p.takes("TASK") {
		p.task(tasks)
	}
	runs := map[string]int{}
	for p.takes("PROGRAM") {
		p.run(runs, tasks)
	}
	p.want("END_RESOURCE")
	p.want("END_CONFIGURATION")
	p.isSet = true
}

// task reads a task behind its first word.
func (p *parser) task(tasks map[string]int) {
	name := p.name()
	must(len(p.project.Tasks) < api.MaxTasks, name.At, api.ErrFull)
	must(tasks[name.Text] == 0, name.At, api.ErrTwice)
	task := api.Task{Name: name.Text, At: name.At}
	p.want("(")
	p.trigger(&task)
	p.want(",")
	p.wantName(priorityName)
	p.want(":=")
	at := p.peek().At
	task.Priority = p.number()
	must(task.Priority >= 0 && task.Priority <= maxPriority, at, api.ErrSpec)
	p.want(")")
	p.want(";")
	tasks[name.Text]++
	p.project.Tasks = append(p.project.Tasks, task)
}

// trigger reads what lets a task run: a span that goes by, or a global that rises.
func (p *parser) trigger(task *api.Task) {
	word := p.name()
	must(word.Text == intervalName || word.Text == singleName, word.At, api.ErrToken)
	p.want(":=")
	if word.Text == singleName {
		name := p.name()
		must(p.globals.hasBool(name.Text), name.At, api.ErrUnknown)
		task.Single = name.Text
		return
	}
	span := p.token(api.TokLit)
	task.Interval = int(span.Value.Bits)
	must(span.Value.Kind == api.KTime && task.Interval > 0, span.At, api.ErrSpec)
}

// hasBool tells whether a variable of that name is a BOOL.
func (s *scope) hasBool(name string) bool {
	i, known := s.known[name]
	return known && s.vars[i].Type == api.Type{Kind: api.KBool}
}

// run reads a program's instance behind its first word.
func (p *parser) run(runs, tasks map[string]int) {
	name := p.name()
	must(len(p.project.Runs) < api.MaxRuns, name.At, api.ErrFull)
	must(runs[name.Text] == 0, name.At, api.ErrTwice)
	run := api.Run{Name: name.Text, At: name.At}
	if p.takes("WITH") {
		task := p.name()
		must(tasks[task.Text] > 0, task.At, api.ErrUnknown)
		run.Task = task.Text
	}
	p.want(":")
	run.Pou = p.name().Text
	p.want(";")
	runs[name.Text]++
	p.project.Runs = append(p.project.Runs, run)
}
