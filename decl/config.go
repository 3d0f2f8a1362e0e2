package decl

import (
	"relay/api"
	"relay/words"
)

const (
	intervalName = "INTERVAL"
	singleName   = "SINGLE"
	priorityName = "PRIORITY"
	maxPriority  = 65535
)

// configuration reads the configuration behind its first word.
func (p *parser) configuration() {
	name := p.Name()
	words.Must(!p.isSet, name.At, api.ErrTwice)
	p.sections(&p.globals)
	p.Want("RESOURCE")
	p.project.Name, p.project.Source = p.Name().Text, p.source
	p.Want("ON")
	p.Name()
	p.sections(&p.globals)
	tasks := map[string]int{}
	for p.Takes("TASK") {
		p.task(tasks)
	}
	runs := map[string]int{}
	for p.Takes("PROGRAM") {
		p.run(runs, tasks)
	}
	p.Want("END_RESOURCE")
	p.Want("END_CONFIGURATION")
	p.isSet = true
}

// task reads a task behind its first word.
func (p *parser) task(tasks map[string]int) {
	name := p.Name()
	words.Must(len(p.project.Tasks) < api.MaxTasks, name.At, api.ErrFull)
	words.Must(tasks[name.Text] == 0, name.At, api.ErrTwice)
	task := api.Task{Name: name.Text, At: name.At}
	p.Want("(")
	p.trigger(&task)
	p.Want(",")
	p.wantName(priorityName)
	p.Want(":=")
	at := p.Peek().At
	task.Priority = p.number()
	words.Must(task.Priority >= 0 && task.Priority <= maxPriority, at, api.ErrSpec)
	p.Want(")")
	p.Want(";")
	tasks[name.Text]++
	p.project.Tasks = append(p.project.Tasks, task)
}

// trigger reads what lets a task run: a span that goes by, or a global that rises.
func (p *parser) trigger(task *api.Task) {
	word := p.Name()
	words.Must(word.Text == intervalName || word.Text == singleName, word.At, api.ErrToken)
	p.Want(":=")
	if word.Text == singleName {
		name := p.Name()
		words.Must(p.globals.hasBool(name.Text), name.At, api.ErrUnknown)
		task.Single = name.Text
		return
	}
	span := p.Token(api.TokLit)
	task.Interval = int(span.Value.Bits)
	words.Must(span.Value.Kind == api.KTime && task.Interval > 0, span.At, api.ErrSpec)
}

// hasBool tells whether a variable of that name is a BOOL.
func (s *scope) hasBool(name string) bool {
	i, known := s.known[name]
	return known && s.vars[i].Type == api.Type{Kind: api.KBool}
}

// run reads a program's instance behind its first word.
func (p *parser) run(runs, tasks map[string]int) {
	name := p.Name()
	words.Must(len(p.project.Runs) < api.MaxRuns, name.At, api.ErrFull)
	words.Must(runs[name.Text] == 0, name.At, api.ErrTwice)
	run := api.Run{Name: name.Text, At: name.At}
	if p.Takes("WITH") {
		task := p.Name()
		words.Must(tasks[task.Text] > 0, task.At, api.ErrUnknown)
		run.Task = task.Text
	}
	p.Want(":")
	run.Pou = p.Name().Text
	p.Want(";")
	runs[name.Text]++
	p.project.Runs = append(p.project.Runs, run)
}
