package bound_test

import (
	"slices"
	"strconv"
	"testing"

	"relay/api"
	"relay/bound"
)

// P22.1: the numbers that a code calls, rising, each once, whether there are such codes or not.
func TestCalls(t *testing.T) {
	for text, want := range map[string][]int{
		"": nil, "0": {0}, "5": {5}, "2 1": {1, 2}, "1 1": {1}, "3 1 2 1 3 3 0": {0, 1, 2, 3}, "-1 7 -1": {-1, 7}, "9223372036854775807 -9223372036854775808 0": {-1 << 63, 0, 1<<63 - 1},
	} {
		if got := bound.Calls(callers(text)[0]); !slices.Equal(got, want) {
			t.Error(text, got)
		}
	}
	if got := bound.Calls(api.Flat{}); len(got) != 0 {
		t.Error(got)
	}
	f := api.Flat{}
	for code := -1; code <= api.NumIr; code++ {
		f.Ops = append(f.Ops, api.Op{Code: code, A: 3, B: code, C: 5, D: 6})
	}
	// A call that nothing comes to is one, too.
	if got := bound.Calls(f); !slices.Equal(got, []int{api.IrCall}) {
		t.Error(got)
	}
}

// P22.1: each behind those that it calls, the lowest that can be first.
func TestOrder(t *testing.T) {
	for _, x := range []struct {
		codes []api.Flat
		want  []int
		why   api.Errno
	}{
		{nil, nil, api.OK},
		{callers(""), []int{0}, api.OK}, {callers("", "", ""), []int{0, 1, 2}, api.OK}, {callers("1", ""), []int{1, 0}, api.OK}, {callers("1 1 1", ""), []int{1, 0}, api.OK}, {callers("", "0"), []int{0, 1}, api.OK},
		{callers("2", "", "1"), []int{1, 2, 0}, api.OK}, {callers("3", "", "", "", "0"), []int{1, 2, 3, 0, 4}, api.OK}, {callers("4", "", "0", "1", ""), []int{1, 3, 4, 0, 2}, api.OK}, {callers("1 2 3", "2 3", "3", ""), []int{3, 2, 1, 0}, api.OK},
		{callers("0"), nil, api.ErrCycle}, {callers("", "1"), nil, api.ErrCycle}, {callers("1", "0"), nil, api.ErrCycle}, {callers("", "2", "3", "1"), nil, api.ErrCycle}, {callers("1", "1"), nil, api.ErrCycle},
		{callers("1"), nil, api.ErrArg}, {callers("-1"), nil, api.ErrArg}, {callers("", "0 2"), nil, api.ErrArg}, {callers("0", "1", "9"), nil, api.ErrArg}, {callers("9223372036854775807"), nil, api.ErrArg}, {callers("-9223372036854775808"), nil, api.ErrArg},
	} {
		if got, why := bound.Order(x.codes); !slices.Equal(got, x.want) || why != x.why {
			t.Error(x.codes, got, why)
		}
	}
}

// P22.2: how many runs lie within one another; which code is told.
func TestDepth(t *testing.T) {
	for _, x := range []struct {
		codes []api.Flat
		fn    int
		want  told
	}{
		{callers(""), 0, told{1, 0, api.OK}}, {callers("1", ""), 0, told{2, 0, api.OK}}, {callers("1", ""), 1, told{1, 0, api.OK}}, {callers("1 2", "2", ""), 0, told{3, 0, api.OK}}, {callers("1 2", "3", "", ""), 0, told{3, 0, api.OK}}, {callers("", "0", "1", "2"), 3, told{4, 0, api.OK}},
		{callers("1 1 1", ""), 0, told{2, 0, api.OK}}, {[]api.Flat{{}}, 0, told{1, 0, api.OK}},
		// There is no such code.
		{nil, 0, told{0, 0, api.ErrArg}}, {nil, 5, told{0, 5, api.ErrArg}}, {callers("0"), 1, told{0, 1, api.ErrArg}}, {callers("0"), -1, told{0, -1, api.ErrArg}}, {callers("0"), -1 << 63, told{0, -1 << 63, api.ErrArg}}, {callers("0"), 1<<63 - 1, told{0, 1<<63 - 1, api.ErrArg}},
		// The lowest that calls none, ahead of rings
		{callers("1"), 0, told{0, 0, api.ErrArg}}, {callers("-1"), 0, told{0, 0, api.ErrArg}}, {callers("1", "9"), 0, told{0, 1, api.ErrArg}}, {callers("2", "9", "1 9"), 0, told{0, 1, api.ErrArg}}, {callers("0 2", "9", "9"), 0, told{0, 2, api.ErrArg}}, {callers("", "9", "1", "2 3"), 3, told{0, 1, api.ErrArg}}, {callers("1 9", "1"), 0, told{0, 0, api.ErrArg}},
		{callers("1 4", "2 9", "1", "9", "9"), 0, told{0, 1, api.ErrArg}}, {callers("2", "0", "1 7"), 0, told{0, 2, api.ErrArg}},
		// The lowest in a ring
		{callers("0"), 0, told{0, 0, api.ErrCycle}}, {callers("1", "1"), 0, told{0, 1, api.ErrCycle}}, {callers("2", "2", "1"), 0, told{0, 1, api.ErrCycle}}, {callers("1", "2", "0"), 2, told{0, 0, api.ErrCycle}}, {callers("3", "2", "1", "2 3"), 0, told{0, 1, api.ErrCycle}}, {callers("3", "", "1", "3 2"), 0, told{0, 3, api.ErrCycle}},
		// Between two rings lie codes that are in none.
		{callers("4", "2", "3", "3", "4 1"), 0, told{0, 3, api.ErrCycle}}, {callers("1", "2 1", "3", "4", "4"), 2, told{0, 4, api.ErrCycle}}, {callers("2", "", "3", "4", "2 1"), 0, told{0, 2, api.ErrCycle}},
		// Two rings that meet in one code
		{callers("4", "4", "4", "", "1 2"), 0, told{0, 1, api.ErrCycle}}, {callers("2", "3", "3", "2 1"), 0, told{0, 1, api.ErrCycle}},
		// What does not belong to it
		{callers("1", "", "9", "3", "0 4"), 0, told{2, 0, api.OK}}, {callers("9", "0", "3", ""), 2, told{2, 0, api.OK}},
	} {
		if got := depth(x.codes, x.fn); got != x.want || got != modelDepth(x.codes, x.fn) {
			t.Error(x.codes, x.fn, got)
		}
		if got := of(x.codes, x.fn); x.want.why != api.OK && got != x.want {
			t.Error(x.codes, x.fn, got)
		}
	}
}

// Codes one behind another, very many of them: each calls the next one; at the end there may be a ring, or nothing.
func TestLongChains(t *testing.T) {
	const n = 100000
	chain := func(last string) []api.Flat {
		var texts []string
		for i := range n - 1 {
			texts = append(texts, strconv.Itoa(i+1))
		}
		return callers(append(texts, last)...)
	}
	codes := chain("")
	if got := depth(codes, 0); got != (told{n, 0, api.OK}) {
		t.Error(got)
	}
	if got := of(codes, 0); got != (told{2*n - 1, 0, api.OK}) {
		t.Error(got)
	}
	l, why := bound.Order(codes)
	if why != api.OK || len(l) != n || l[0] != n-1 || l[n-1] != 0 {
		t.Error(len(l), why)
	}
	if got := depth(chain("99999"), 0); got != (told{0, n - 1, api.ErrCycle}) {
		t.Error(got)
	}
	if got := depth(chain("500"), 0); got != (told{0, 500, api.ErrCycle}) {
		t.Error(got)
	}
	if got := depth(chain("100000"), 0); got != (told{0, n - 1, api.ErrArg}) {
		t.Error(got)
	}
	if _, why := bound.Order(chain("0")); why != api.ErrCycle {
		t.Error(why)
	}
}

// Many codes that call many: each is looked at once.
func TestWideWebs(t *testing.T) {
	var texts []string
	for i := range 200 {
		text := ""
		for j := range i {
			text += " " + strconv.Itoa(j)
		}
		texts = append(texts, text)
	}
	codes := callers(texts...)
	if got := depth(codes, 199); got != (told{200, 0, api.OK}) {
		t.Error(got)
	}
	if got := of(codes, 199); got != (told{0, 199, api.ErrGreat}) {
		t.Error(got)
	}
	// 1, 3, 7, ..: twice as many, and one more, each time
	if got := of(codes, 19); got != (told{1<<20 - 1, 0, api.OK}) {
		t.Error(got)
	}
	if got := of(codes, 20); got != (told{0, 20, api.ErrGreat}) {
		t.Error(got)
	}
}
