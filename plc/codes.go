package plc

import (
	"sync"

	"relay/alloc"
	"relay/api"
	"relay/ir"
	"relay/opt"
)

// made is what becomes of the code of a number: its instructions over a machine's registers, or why there are none.
type made struct {
	number int
	flat   api.Flat
	why    api.Errno
}

// instructions is what becomes of a code.
func instructions(number int, c api.Code) made {
	f, why := ir.Build(c)
	if why == api.OK {
		f, why = opt.Flat(f)
	}
	if why == api.OK {
		f, why = alloc.Alloc(f, api.MaxRegs)
	}
	return made{number, f, why}
}

// flats is the instructions of all codes; else the first code that has none, and why.
func flats(codes []api.Code) ([]api.Flat, int, api.Errno) {
	// There is room for all of them, so that none waits for another one.
	ready := make(chan made, len(codes))
	var workers sync.WaitGroup
	for i, c := range codes {
		workers.Add(1)
		go func() {
			defer workers.Done()
			ready <- instructions(i, c)
		}()
	}
	workers.Wait()
	close(ready)
	l, first := make([]api.Flat, len(codes)), made{}
	for x := range ready {
		l[x.number] = x.flat
		if x.why != api.OK && (first.why == api.OK || x.number < first.number) {
			first = x
		}
	}
	if first.why != api.OK {
		return nil, first.number, first.why
	}
	return l, 0, api.OK
}
