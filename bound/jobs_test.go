package bound_test

import (
	"reflect"
	"slices"
	"strings"
	"testing"

	"relay/api"
	"relay/bound"
)

// image is an image of codes whose bounds are 5, 11, MaxBound - 3 and MaxBound + 1, one that can't be reckoned, one that calls itself, and one that calls none.
func image(t *testing.T, jobs ...api.Job) api.Image {
	t.Helper()
	codes := []api.Flat{line(5), line(11), great(api.MaxBound - 3), great(api.MaxBound + 1)}
	codes = append(codes, read(t, "jump", "call B5 C1; return", "call B9 C1; return")...)
	return api.Image{Name: "M", Codes: codes, Jobs: jobs}
}

// job is a task of codes, with as many bases.
func job(codes ...int) api.Job {
	j := api.Job{Name: "T", Interval: 7, Single: -1, Priority: 3, Codes: codes, Bound: 99}
	for i := range codes {
		j.Bases = append(j.Bases, i*i)
	}
	return j
}

// with is a task with another bound.
func with(j api.Job, n int) api.Job {
	j.Bound = n
	return j
}

// P22.4: all tasks with their bounds.
func TestJobs(t *testing.T) {
	for _, x := range []struct{ jobs, want []api.Job }{
		{nil, nil},
		{[]api.Job{job()}, []api.Job{with(job(), 0)}},
		{[]api.Job{job(0)}, []api.Job{with(job(0), 5)}},
		{[]api.Job{job(0, 1, 0), job(), job(1)}, []api.Job{with(job(0, 1, 0), 21), with(job(), 0), with(job(1), 11)}},
		{[]api.Job{job(2), job(2)}, []api.Job{with(job(2), api.MaxBound-3), with(job(2), api.MaxBound-3)}},
	} {
		got, at, why := bound.Jobs(image(t, x.jobs...))
		same := slices.EqualFunc(got, x.want, func(a, b api.Job) bool {
			return slices.Equal(a.Codes, b.Codes) && slices.Equal(a.Bases, b.Bases) && a.Bound == b.Bound && a.Name == b.Name && a.Interval == b.Interval && a.Single == b.Single && a.Priority == b.Priority
		})
		if !same || at != 0 || why != api.OK {
			t.Error(x.jobs, got, at, why)
		}
	}
	// All that a task has beside them stays.
	odd := api.Job{Name: strings.Repeat("x", 99), Interval: -5, Single: 1 << 40, Priority: -1, Bound: -7, Codes: []int{0}, Bases: []int{-1}}
	got, _, why := bound.Jobs(image(t, odd))
	if why != api.OK || len(got) != 1 || !reflect.DeepEqual(got[0], with(odd, 5)) {
		t.Error(got, why)
	}
	// A sum of MaxBound, and one more
	codes := []api.Flat{great(api.MaxBound - 3), line(3), line(1)}
	if got, _, why := bound.Jobs(api.Image{Codes: codes, Jobs: []api.Job{job(0, 1)}}); why != api.OK || got[0].Bound != api.MaxBound {
		t.Error(got, why)
	}
	if got, at, why := bound.Jobs(api.Image{Codes: codes, Jobs: []api.Job{job(1), job(0, 1, 2)}}); why != api.ErrGreat || at != 1 || len(got) != 0 {
		t.Error(got, at, why)
	}
}

// P22.4: the first task that has a fault, and of its faults the first.
func TestJobsFaults(t *testing.T) {
	few, many := job(0, 1), job(0)
	few.Bases, many.Bases = few.Bases[1:], []int{0, 1}
	fewOdd := job(4, 9)
	fewOdd.Bases = nil
	for _, x := range []struct {
		jobs []api.Job
		at   int
		why  api.Errno
	}{
		{[]api.Job{few}, 0, api.ErrArg}, {[]api.Job{many}, 0, api.ErrArg}, {[]api.Job{job(0), few}, 1, api.ErrArg}, {[]api.Job{fewOdd}, 0, api.ErrArg},
		{[]api.Job{{Bases: []int{1}}}, 0, api.ErrArg},
		{[]api.Job{job(7)}, 0, api.ErrArg}, {[]api.Job{job(-1)}, 0, api.ErrArg}, {[]api.Job{job(1 << 62)}, 0, api.ErrArg}, {[]api.Job{job(6)}, 0, api.ErrArg}, {[]api.Job{job(5)}, 0, api.ErrCycle}, {[]api.Job{job(4)}, 0, api.ErrCycle}, {[]api.Job{job(3)}, 0, api.ErrGreat}, {[]api.Job{job(2, 0)}, 0, api.ErrGreat},
		// In the order of its codes; the sum last
		{[]api.Job{job(0, 4, 7, 3)}, 0, api.ErrCycle}, {[]api.Job{job(0, 7, 4, 3)}, 0, api.ErrArg}, {[]api.Job{job(3, 7)}, 0, api.ErrGreat}, {[]api.Job{job(2, 2, 7)}, 0, api.ErrArg}, {[]api.Job{job(2, 2, 5)}, 0, api.ErrCycle},
		// Task by task
		{[]api.Job{job(0), job(1), job(4), few}, 2, api.ErrCycle}, {[]api.Job{job(0), job(2, 2), job(7)}, 1, api.ErrGreat}, {[]api.Job{job(), job(7), job(2, 2)}, 1, api.ErrArg}, {[]api.Job{job(3), few}, 0, api.ErrGreat},
	} {
		got, at, why := bound.Jobs(image(t, x.jobs...))
		if len(got) != 0 || at != x.at || why != x.why {
			t.Error(x, got, at, why)
		}
	}
	// Where a code is faulty that no task runs there is no fault.
	if got, _, why := bound.Jobs(image(t, job(0), job(1))); len(got) != 2 || why != api.OK {
		t.Error(got, why)
	}
	if got, at, why := bound.Jobs(api.Image{}); len(got) != 0 || at != 0 || why != api.OK {
		t.Error(got, at, why)
	}
	if got, at, why := bound.Jobs(api.Image{Jobs: []api.Job{job(), job(0)}}); len(got) != 0 || at != 1 || why != api.ErrArg {
		t.Error(got, at, why)
	}
}
