package vm_test

import (
	"math/rand"
	"slices"
	"strings"
	"testing"

	"relay/api"
	"relay/listing"
	"relay/value"
	"relay/vm"
)

// Steps enough for whatever ends.
const enough = 1 << 20

// What codes of tests have.
const (
	testRegs  = 8
	testSlots = 4
)

// read is the codes of listings.
func read(t *testing.T, texts ...string) []api.Flat {
	t.Helper()
	var l []api.Flat
	for _, text := range texts {
		f, is := listing.Read(text)
		if !is {
			t.Fatal(text)
		}
		f.Name, f.What, f.Cells, f.Base, f.Regs, f.Slots = "F", api.PouProgram, 1, -1, testRegs, testSlots
		l = append(l, f)
	}
	return l
}

// values is the values of a text, as listings write them, with blanks between.
func values(t *testing.T, text string) []api.Value {
	t.Helper()
	var l []api.Value
	for _, s := range strings.Fields(text) {
		f, is := listing.Read("const " + s)
		if !is || f.Ops[0].Value == (api.Value{}) {
			t.Fatal(text)
		}
		l = append(l, f.Ops[0].Value)
	}
	return l
}

// of is cells of the kinds of values.
func of(mem []api.Value) []api.Cell {
	var l []api.Cell
	for _, v := range mem {
		l = append(l, api.Cell{Kind: v.Kind})
	}
	return l
}

// outcome is what a run comes to.
type outcome struct {
	after        []api.Value
	steps, fault int
}

func (x outcome) same(y outcome) bool {
	return slices.Equal(x.after, y.after) && x.steps == y.steps && x.fault == y.fault
}

func run(codes []api.Flat, base int, mem []api.Value, most int) outcome {
	after, steps, fault := vm.Run(codes, 0, base, 0, of(mem), mem, most)
	return outcome{after, steps, fault}
}

// did is a code, what its cells are ahead and behind, and how it ends. A fault comes in the last step.
type did struct {
	code         string
	ahead        string
	behind       string
	steps, fault int
}

// checkDid runs codes over cells from a base on.
func checkDid(t *testing.T, base int, l ...did) {
	t.Helper()
	for _, x := range l {
		codes, mem := read(t, strings.Split(x.code, "\n")...), values(t, x.ahead)
		got := run(codes, base, mem, enough)
		if want := (outcome{values(t, x.behind), x.steps, x.fault}); !got.same(want) {
			t.Errorf("%s over %s: %v", x.code, x.ahead, got)
		}
		checkSteps(t, codes, base, mem)
	}
}

// checkSteps: with fewer steps than a run takes it stops there, and with as many it does not.
func checkSteps(t *testing.T, codes []api.Flat, base int, mem []api.Value) {
	t.Helper()
	whole := run(codes, base, mem, enough)
	for most := range whole.steps {
		if got := run(codes, base, mem, most); !got.same(outcome{nil, most, api.FaultSteps}) {
			t.Fatal(listing.Text(codes[0]), most, got)
		}
	}
	for _, most := range []int{whole.steps + 1, 1<<31 - 1, 1<<63 - 1} {
		if got := run(codes, base, mem, most); !got.same(whole) {
			t.Fatal(listing.Text(codes[0]), most, got)
		}
	}
}

// stops checks that a code stops in its last step but for what stands behind: of each fault the codes that have it, all over the same cells.
func stops(t *testing.T, base int, ahead string, fault int, codes ...string) {
	t.Helper()
	for _, text := range codes {
		ahead := values(t, ahead)
		code := read(t, text+"; return")
		got := run(code, base, ahead, enough)
		if want := (outcome{nil, len(code[0].Ops) - 1, fault}); !got.same(want) {
			t.Error(text, got, "not", want)
		}
		checkSteps(t, code, base, ahead)
	}
}

// runs checks that codes come to their ends, step by step, and leave what is told.
func runs(t *testing.T, base int, ahead, behind string, codes ...string) {
	t.Helper()
	for _, text := range codes {
		code := read(t, text+"; return")
		got := run(code, base, values(t, ahead), enough)
		if want := (outcome{values(t, behind), len(code[0].Ops), 0}); !got.same(want) {
			t.Error(text, got, "not", want)
		}
		checkSteps(t, code, base, values(t, ahead))
	}
}

// pick is one of several things, by chance.
func pick[T any](r *rand.Rand, l ...T) T { return l[r.Intn(len(l))] }

// someValue is a value by chance: it may be, or be of no kind, or not of its kind.
func someValue(r *rand.Rand) api.Value {
	switch r.Intn(24) {
	case 0:
		return api.Value{}
	case 1:
		return api.Value{Kind: api.Kind(r.Intn(int(api.NumKind) + 1)), Bits: pick(r, uint64(r.Intn(5)), r.Uint64(), 1<<63), Text: pick(r, "", "", "a")}
	case 2, 3:
		return api.Value{Kind: api.KRef, Bits: pick(r, uint64(r.Intn(7)), uint64(r.Intn(7)), 1<<64-1)}
	}
	return soundValue(r, pick(r, api.KBool, api.KBool, api.KInt, api.KInt, api.KInt, api.KInt, api.KInt, api.KLint, api.KUlint, api.KTime, api.KString, api.KLreal, api.KSint, api.KWord))
}

// soundValue is a value of a kind, by chance, that may be.
func soundValue(r *rand.Rand, k api.Kind) api.Value {
	switch k {
	case api.KLreal:
		return value.Lreal(pick(r, 0, 1.5, -2, 1e300))
	case api.KString:
		v, _ := value.Text(pick(r, "", "a", "12", "abcd"))
		return v
	case api.KRef:
		return api.Value{Kind: k, Bits: pick(r, uint64(r.Intn(7)), uint64(r.Intn(7)), 1<<64-1)}
	case api.KUlint:
		return api.Value{Kind: k, Bits: pick(r, uint64(r.Intn(4)), 1<<63, 1<<64-1)}
	}
	v, fault := value.Int(k, pick(r, 0, 1, 2, 3, -1, 32767, 5))
	if fault != 0 {
		return value.Zero(k)
	}
	return v
}
