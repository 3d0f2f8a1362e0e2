package bound_test

import (
	"strings"
	"testing"

	"relay/api"
)

// reckoned is listings, of which the first is asked, and what Of answers.
type reckoned struct {
	text string
	want told
}

func checkReckoned(t *testing.T, l ...reckoned) {
	t.Helper()
	for _, x := range l {
		codes := read(t, strings.Split(x.text, "\n")...)
		if got := of(codes, 0); got != x.want || got != modelOf(codes, 0) {
			t.Error(x.text, got, modelOf(codes, 0))
		}
	}
}

func ok(n int) told { return told{n, 0, api.OK} }

// odd is what is answered of a code that can't be reckoned.
func odd(code int) told { return told{0, code, api.ErrCycle} }

// The chapter's examples.
func TestExamples(t *testing.T) {
	checkReckoned(t,
		reckoned{"load B1 C3; const A1 INT#1; do A2 C1 add; store A2 B1 C3; return", ok(5)},
		reckoned{"call B1 C1; call B1 C1; const INT#1; const INT#1; return\nconst INT#1; const INT#1; return", ok(11)},
		reckoned{"call C1; return", odd(0)}, reckoned{"jump", odd(0)},
		// FOR i := 1 TO 3 DO n := n + 1; END_FOR, as ir has it
		reckoned{"const; const A1; do A2 C1 lt; unless A2 B18; const A3; do A4 C3 mul; const A5; do A6 B5 C4 add; conv A7 B6 INT; store A7 B1; load A8 B1 C1; const A9; do A10 B8 C9 add; store A10 B1 C1; const A11; do A12 C11 add; move B12; jump B1; return; loop 1 18 3", ok(70)})
}

// Ways without loops: the longest one counts.
func TestWays(t *testing.T) {
	checkReckoned(t,
		reckoned{"return", ok(1)}, reckoned{"fault A1", ok(1)}, reckoned{"fault", ok(1)},
		reckoned{"jump B2; const INT#1; return", ok(2)}, reckoned{"unless B3; const INT#1; const INT#1; return", ok(4)}, reckoned{"unless B3; const INT#1; return; const INT#1; const INT#1; return", ok(4)}, reckoned{"unless B4; const INT#1; const INT#1; return; return", ok(4)},
		reckoned{"unless B1; return", ok(2)}, reckoned{"jump B1; fault A1", ok(2)}, reckoned{"return; const INT#1; return", ok(1)},
		reckoned{"unless B2; jump B3; unless B4; return; return", ok(3)},
		// A call costs what its code costs, if the way comes to it.
		reckoned{"unless B2; call B1 C1; return\nconst INT#1; const INT#1; const INT#1; return", ok(7)}, reckoned{"jump B2; call B1 C1; return\nconst INT#1; return", ok(2)},
		reckoned{"call B1 C1; call B2 C1; return\ncall B2 C1; return\nreturn", ok(1 + 3 + 1 + 1 + 1)})
}

// A code that can't be reckoned, in each way; and what just can.
func TestCanBeReckoned(t *testing.T) {
	if got := of([]api.Flat{{}}, 0); got != odd(0) {
		t.Error(got)
	}
	if got := of([]api.Flat{{Loops: []api.Loop{{}}}}, 0); got != odd(0) {
		t.Error(got)
	}
	for _, code := range []int{0, -1, 99, api.IrConst, api.IrStd, api.IrBlock, api.IrUnless} {
		// The last one leads behind the end; others do not.
		if got := of([]api.Flat{{Ops: []api.Op{{Code: code}}}}, 0); got != odd(0) {
			t.Error(code, got)
		}
		want := ok(2)
		if got := of([]api.Flat{{Ops: []api.Op{{Code: code, B: 1}, {Code: api.IrReturn}}}}, 0); got != want {
			t.Error(code, got)
		}
	}
	checkReckoned(t,
		// Places
		reckoned{"const INT#1", odd(0)}, reckoned{"jump B1", odd(0)}, reckoned{"jump B-1", odd(0)}, reckoned{"unless B-1; return", odd(0)}, reckoned{"unless B2; return", odd(0)}, reckoned{"return; jump B9", odd(0)}, reckoned{"return; const INT#1", odd(0)}, reckoned{"jump B9223372036854775807; return", odd(0)}, reckoned{"jump B-9223372036854775808; return", odd(0)},
		// Loops' bounds
		reckoned{"const INT#1; return; loop 0 2 0", ok(2)}, reckoned{"const INT#1; return; loop 0 2 65536", ok(2 * 65537)}, reckoned{"const INT#1; return; loop 0 2 65537", odd(0)}, reckoned{"const INT#1; return; loop 0 2 -1", odd(0)}, reckoned{"const INT#1; return; loop 0 3 1", odd(0)}, reckoned{"const INT#1; return; loop -1 2 1", odd(0)}, reckoned{"const INT#1; return; loop 1 1 1", odd(0)}, reckoned{"const INT#1; return; loop 0 0 1", odd(0)}, reckoned{"const INT#1; return; loop 2 2 1", odd(0)}, reckoned{"const INT#1; return; loop 1 0 1", odd(0)}, reckoned{"const INT#1; return; loop 1 2 1", ok(3)},
		reckoned{"return; loop -9223372036854775808 9223372036854775807 1", odd(0)},
		// Loops across one another
		reckoned{"const INT#1; const INT#1; return; loop 0 2 1; loop 1 3 1", odd(0)}, reckoned{"const INT#1; const INT#1; return; loop 1 3 1; loop 0 2 1", odd(0)}, reckoned{"const INT#1; const INT#1; return; loop 0 2 1; loop 2 3 1", ok(6)}, reckoned{"const INT#1; const INT#1; return; loop 0 3 1; loop 1 3 1", ok(2 * 5)}, reckoned{"const INT#1; const INT#1; return; loop 0 3 1; loop 0 2 1; loop 1 3 1", odd(0)},
		reckoned{"const INT#1; const INT#1; const INT#1; return; loop 0 4 0; loop 0 3 0; loop 1 2 0; loop 2 4 0", odd(0)},
		// Ways back
		reckoned{"jump", odd(0)}, reckoned{"jump; loop 0 1 3", ok(4)}, reckoned{"const INT#1; jump; loop 0 2 3", ok(8)}, reckoned{"const INT#1; jump; loop 0 1 3", odd(0)}, reckoned{"const INT#1; jump; loop 1 2 3", odd(0)}, reckoned{"const INT#1; jump B1; loop 0 2 3", odd(0)}, reckoned{"const INT#1; jump B1; loop 1 2 3", ok(5)},
		reckoned{"const INT#1; unless; return; loop 0 2 3", ok(9)}, reckoned{"const INT#1; unless; return", odd(0)}, reckoned{"const INT#1; unless B1; return", odd(0)}, reckoned{"return; jump", odd(0)}, reckoned{"return; jump B1", odd(0)},
		reckoned{"const INT#1; const INT#1; jump; loop 0 3 1; loop 1 3 1", ok(2 * 5)}, reckoned{"const INT#1; const INT#1; jump; loop 0 2 1; loop 0 3 1", ok(2 * (2*2 + 1))}, reckoned{"const INT#1; const INT#1; jump; loop 0 2 1", odd(0)},
		// The lowest of those that belong to it
		reckoned{"call B2 C1; return\nreturn\njump", odd(2)}, reckoned{"call B2 C1; return\njump\ncall B1 C1; jump", odd(1)}, reckoned{"call B2 C1; return\njump\njump", odd(2)}, reckoned{"call B1 C1; jump\njump", odd(0)}, reckoned{"return\njump", ok(1)},
		// Also where no way comes to the call
		reckoned{"return; call B1 C1; return\njump", odd(1)},
		// Errors of calls come first.
		reckoned{"call B1 C1; jump\ncall B1 C1; return", odd(1)}, reckoned{"call B1 C1; jump\ncall B9 C1; return", told{0, 1, api.ErrArg}})
}

// Loops beside and within one another, with one stretch, with one Head, and ways out of them.
func TestLoops(t *testing.T) {
	five := "const INT#1; const INT#1; const INT#1; const INT#1; return; "
	checkReckoned(t,
		reckoned{five + "loop 1 3 2", ok(1 + 3*2 + 2)}, reckoned{five + "loop 0 5 2", ok(3 * 5)}, reckoned{five + "loop 0 1 2", ok(3 + 4)}, reckoned{five + "loop 4 5 2", ok(4 + 3)},
		// Beside one another
		reckoned{five + "loop 0 2 2; loop 2 4 3", ok(3*2 + 4*2 + 1)}, reckoned{five + "loop 3 4 3; loop 0 2 2", ok(3*2 + 1 + 4 + 1)},
		// Within one another
		reckoned{five + "loop 0 4 2; loop 1 3 3", ok(3*(1+4*2+1) + 1)}, reckoned{five + "loop 1 3 3; loop 0 4 2", ok(3*(1+4*2+1) + 1)}, reckoned{five + "loop 0 4 1; loop 1 4 2; loop 2 3 3", ok(2*(1+3*(1+4+1)) + 1)},
		// With one stretch: the one that stands behind lies in the other one.
		reckoned{five + "loop 1 3 2; loop 1 3 4", ok(1 + 3*(5*2) + 2)}, reckoned{five + "loop 1 3 1; loop 1 3 1; loop 1 3 1", ok(1 + 2*2*2*2 + 2)}, reckoned{five + "loop 0 5 0; loop 0 5 0", ok(5)},
		// With one Head
		reckoned{five + "loop 1 3 2; loop 1 4 4", ok(1 + 5*(3*2+1) + 1)}, reckoned{five + "loop 1 4 4; loop 1 3 2", ok(1 + 5*(3*2+1) + 1)}, reckoned{five + "loop 0 4 1; loop 0 3 1; loop 0 2 1", ok(2*(2*(2*2+1)+1) + 1)},
		// With one End
		reckoned{five + "loop 1 4 2; loop 2 4 4", ok(1 + 3*(1+5*2) + 1)},
		// Times 0: once through it
		reckoned{five + "loop 1 3 0", ok(5)},
		// A way round in a loop
		reckoned{"const INT#1; unless B5; const INT#1; const INT#1; jump; return; loop 0 5 9", ok(10*5 + 1)}, reckoned{"unless B4; unless; const INT#1; jump; return; loop 0 4 1", ok(2*4 + 1)},
		// Left from within: what lies behind counts from each of its ways out on.
		reckoned{"unless B3; unless B4; jump; const INT#1; return; loop 0 3 1", ok(2*3 + 2)}, reckoned{"unless B4; unless B3; jump; return; const INT#1; const INT#1; return; loop 0 3 1", ok(2*3 + 3)},
		// Out of two at once, and to the outer one's Head
		reckoned{"const INT#1; unless B5; unless B5; jump B1; jump; return; loop 0 5 1; loop 1 4 1", ok(2*(1+2*3) + 1)}, reckoned{"const INT#1; unless B4; unless; jump B1; jump; return; loop 0 5 1; loop 1 4 1", ok(2*(1+2*3+1) + 1 - 1)},
		// Left by an end alone
		reckoned{"unless B2; return; fault A1; jump; return; loop 0 4 1", ok(2 * 2)},
		// Calls in a loop
		reckoned{"call B1 C1; unless; return; loop 0 2 4\nconst INT#1; return", ok(5*4 + 1)})
}

// Jumps into a loop, past its Head: its instructions count one by one then, and the whole loop once a way comes back to its Head.
func TestEntered(t *testing.T) {
	checkReckoned(t,
		reckoned{"jump B3; const INT#1; const INT#1; const INT#1; return; loop 1 4 9", ok(3)},
		reckoned{"jump B2; const INT#1; const INT#1; jump B1; return; loop 1 4 9", ok(1 + 2 + 10*3)},
		reckoned{"jump B2; const INT#1; unless B5; const INT#1; jump B1; return; loop 1 5 9", ok(1 + 3 + 10*4 + 1)},
		// Into two at once
		reckoned{"jump B3; const INT#1; const INT#1; const INT#1; jump B2; return; loop 1 5 1; loop 2 5 2", ok(1 + 2 + 3*3)},
		reckoned{"jump B3; const INT#1; const INT#1; const INT#1; unless B2; jump B1; return; loop 1 6 1; loop 2 5 2", ok(1 + 2 + 3*3 + 1 + 2*(1+3*3+1))},
		// Into the inner one, out of a loop beside it
		reckoned{"unless B3; unless; jump B5; const INT#1; const INT#1; const INT#1; jump B4; loop 0 2 1; loop 3 7 1; loop 4 7 2", ok(2*2 + 2*(1+3*3))},
		reckoned{"unless B2; unless; jump B5; const INT#1; const INT#1; const INT#1; jump B4; loop 0 2 1; loop 3 7 1; loop 4 7 2", ok(2*2 + 3 + 3*3)},
		// Into two with one Head
		reckoned{"jump B3; const INT#1; const INT#1; const INT#1; jump B1; jump B1; return; loop 1 6 1; loop 1 5 1", ok(1 + 2 + 2*(2*4))})
}

// A loop in a call in a loop, and so on, up to MaxBound and one more.
func TestMaxBound(t *testing.T) {
	// 16 passes of 65536 instructions each: MaxBound. One further instruction is too much.
	body := strings.Repeat("const INT#1; ", 15) + "return; loop 0 16 65535"
	checkReckoned(t, reckoned{body, ok(api.MaxBound)})
	codes := read(t, "const INT#1; "+strings.Repeat("const INT#1; ", 15)+"return; loop 1 17 65535")
	if got := of(codes, 0); got != (told{0, 0, api.ErrGreat}) {
		t.Error(got)
	}
	// The greatest loops within one another are too much, whatever lies around them.
	deep := "const INT#1; return" + strings.Repeat("; loop 0 1 65536", 50)
	codes = read(t, deep)
	if got := of(codes, 0); got != (told{0, 0, api.ErrGreat}) {
		t.Error(got)
	}
	for _, x := range []struct {
		n    int
		want told
	}{{api.MaxBound - 1, ok(api.MaxBound - 1)}, {api.MaxBound, ok(api.MaxBound)}, {api.MaxBound + 1, told{0, 0, api.ErrGreat}}} {
		if got := of([]api.Flat{line(x.n)}, 0); got != x.want {
			t.Error(x.n, got)
		}
		if got := of([]api.Flat{great(x.n)}, 0); got != x.want {
			t.Error(x.n, got)
		}
	}
	// The code that is asked is told, whichever makes it so great; one that no way comes to does not.
	for _, x := range []struct {
		text string
		want told
	}{{"call B1 C1; return", told{0, 0, api.ErrGreat}}, {"return; call B1 C1; return", ok(1)}, {"unless B2; call B1 C1; return", told{0, 0, api.ErrGreat}}, {"jump B2; call B1 C1; return; loop 1 2 5", ok(2)}} {
		codes := append(read(t, x.text), great(api.MaxBound+1))
		if got := of(codes, 0); got != x.want {
			t.Error(x, got)
		}
		if got := of(codes, 1); got != (told{0, 1, api.ErrGreat}) {
			t.Error(x, got)
		}
	}
	// What can't be reckoned is told ahead of what is too great.
	codes = append(read(t, "call B1 C1; call B2 C1; return"), great(api.MaxBound+1), read(t, "jump")[0])
	if got := of(codes, 0); got != odd(2) {
		t.Error(got)
	}
}

// Very many loops within one another, and very many instructions.
func TestManyLoops(t *testing.T) {
	const n = 1 << 16
	f := line(2*n + 1)
	for i := range n {
		f.Loops = append(f.Loops, api.Loop{Head: i, End: 2*n - i})
	}
	if got := of([]api.Flat{f}, 0); got != ok(2*n+1) {
		t.Error(got)
	}
	for i := range f.Loops {
		f.Loops[i] = api.Loop{Head: 5, End: 2 * n}
	}
	if got := of([]api.Flat{f}, 0); got != ok(2*n+1) {
		t.Error(got)
	}
	for i := range f.Loops {
		f.Loops[i] = api.Loop{Head: i, End: i + 1, Times: 1}
	}
	if got := of([]api.Flat{f}, 0); got != ok(3*n+1) {
		t.Error(got)
	}
	f.Loops = append(f.Loops, api.Loop{Head: n, End: n + 5}, api.Loop{Head: n + 4, End: n + 6})
	if got := of([]api.Flat{f}, 0); got != odd(0) {
		t.Error(got)
	}
}
