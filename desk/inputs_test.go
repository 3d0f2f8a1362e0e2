package desk_test

import (
	"strings"
	"testing"

	"relay/api"
)

// of is sources of an image with an input of a kind, and with a task that runs each 10 ms.
func of(kind, addr string) string {
	return "source PROGRAM p END_PROGRAM CONFIGURATION c RESOURCE r ON plc VAR_GLOBAL a AT " + addr + " : " + kind + "; END_VAR TASK t (INTERVAL := T#10ms, PRIORITY := 1); PROGRAM q WITH t : p; END_RESOURCE END_CONFIGURATION\n"
}

// P25.1: set takes what is a value of the input's kind: TRUE, FALSE, a number within the kind; all else is error 5.
func TestKindsOfInputs(t *testing.T) {
	for _, x := range []struct{ kind, addr, good, bad string }{
		{"BOOL", "%IX0.0", "TRUE FALSE", "1 0 true True T TRUEs BOOL#TRUE -1 16#1"},
		{"SINT", "%IB0", "-128 -1 0 127", "-129 128 TRUE"},
		{"USINT", "%IB7", "0 255", "-1 256"},
		{"BYTE", "%IB1", "0 255", "-1 256 16#FF"},
		{"INT", "%IW3", "-32768 32767", "-32769 32768 FALSE a"},
		{"UINT", "%IW3", "0 65535", "-1 65536"},
		{"WORD", "%IW99", "0 65535", "-1 65536 16#0"},
		{"DINT", "%ID0", "-2147483648 2147483647", "-2147483649 2147483648"},
		{"UDINT", "%ID0", "0 4294967295", "-1 4294967296"},
		{"DWORD", "%ID0", "0 4294967295", "-1 4294967296"},
		{"LINT", "%IL0", "-999999999999999 0 999999999999999", "1000000000000000 -1000000000000000 TRUE"},
		{"ULINT", "%IL0", "0 999999999999999", "-1 1000000000000000 18446744073709551615"},
		{"LWORD", "%IL0", "0 999999999999999", "-1 1000000000000000"},
	} {
		at := of(x.kind, x.addr) + running
		for _, word := range strings.Fields(x.good) {
			want := word
			switch x.kind {
			case "BYTE", "WORD", "DWORD", "LWORD":
				want = rows()[word]
			}
			says(t, at+"set "+x.addr+" "+word+"\ncell 0\n"+tick0+"cell 0", "set", x.kind+"="+zeroOf(x.kind), "ran T", x.kind+"="+want)
		}
		for _, word := range strings.Fields(x.bad) {
			says(t, at+"set "+x.addr+" "+word+"\n"+tick0+"cell 0", "error 5", "ran T", x.kind+"="+zeroOf(x.kind))
		}
		ends(t, at+"set "+x.addr+"0 0", 5, api.ErrThing)
	}
}

// rows is the texts of rows of bits.
func rows() map[string]string {
	return map[string]string{"0": "16#0", "255": "16#FF", "65535": "16#FFFF", "4294967295": "16#FFFFFFFF", "999999999999999": "16#38D7EA4C67FFF"}
}

// zeroOf is the text of a kind's 0.
func zeroOf(kind string) string {
	switch kind {
	case "BOOL":
		return "FALSE"
	case "BYTE", "WORD", "DWORD", "LWORD":
		return "16#0"
	}
	return "0"
}

// P25.1: ErrThing of an address that no input cell has: none at all, an output's, a memory's, one in other letters.
func TestNoInputs(t *testing.T) {
	at := "source CONFIGURATION c RESOURCE r ON plc VAR_GLOBAL i AT %IX0.0 : BOOL; q AT %QX0.0 : BOOL; m AT %MX0.0 : BOOL; p : BOOL; END_VAR END_RESOURCE END_CONFIGURATION\n" + running
	says(t, at+"set %IX0.0 TRUE", "set")
	for _, addr := range []string{"%QX0.0", "%MX0.0", "%IX0.1", "%IB0", "%ix0.0", "IX0.0", "%IX0", "i", "I", "P", "", "%", "0", "%IX0.0:"} {
		ends(t, at+"set "+addr+" TRUE", 5, api.ErrThing)
		ends(t, at+"set "+addr+" nonsense", 5, api.ErrThing)
	}
}

// P25.1: inputs are for the next tick alone, the later ones of an address hold; the cells have them from the tick on.
func TestInputs(t *testing.T) {
	at := "source PROGRAM p VAR_EXTERNAL w, v : INT; END_VAR w := w + 1; END_PROGRAM CONFIGURATION c RESOURCE r ON plc VAR_GLOBAL w AT %IW1 : INT; v AT %IW2 : INT; END_VAR TASK t (INTERVAL := T#10ms, PRIORITY := 1); PROGRAM q WITH t : p; END_RESOURCE END_CONFIGURATION\n" + running
	says(t, at+"set %IW1 5\n"+tick0+"cell 0\n"+tick10+"cell 0\n"+tick10+"cell 0", "INT=6", "ran T", "INT=7", "ran T", "INT=8")
	says(t, at+"set %IW1 5\nset %IW2 1\nset %IW1 7\nset %IW2 2\n"+tick0+"cell 0\ncell 1", "INT=8", "INT=2")
	says(t, at+"set %IW1 5\nset %IW1 40000\n"+tick0+"cell 0", "set", "error 5", "ran T", "INT=6")
	// In each mode there may be inputs.
	says(t, at+"stop\nset %IW1 5\n"+tick10+"cell 0\nstart\n"+tick0+"cell 0", "set", "ran", "INT=5", "running", "ran T", "INT=6")
	says(t, at+"stop\nset %IW1 5\nstart\ncell 0\n"+tick0+"cell 0", "running", "INT=0", "ran T", "INT=6")
	says(t, at+"set %IW1 32767\n"+tick0+"cell 0\nset %IW1 1\n"+tick0+"cell 0", "failed 1 T", "INT=32767", "set", "ran", "INT=1")
}

// P25.1: an error of a tick leaves the inputs set; so does all but a tick.
func TestInputsThatStay(t *testing.T) {
	at := divides + running + "set %IW1 9\n"
	says(t, at+"tick -1\n"+tick0+"cell 1", "error 231", "ran FAST SLOW", "INT=9")
	says(t, at+"tick -1\nset %IW1 8\ntick 1099511627777\n"+tick0+"cell 1", "error 231", "set", "error 231", "ran FAST SLOW", "INT=8")
	says(t, at+"stop\ncold\nwarm\nstart\n"+tick0+"cell 1", "ran FAST SLOW", "INT=9")
	says(t, at+"load\nstart\n"+tick0+"cell 1", "loaded", "running", "ran FAST SLOW", "INT=9")
	says(t, at+"compile\nload\nstart\n"+tick0+"cell 1", "image 5 2 2", "loaded", "running", "ran FAST SLOW", "INT=9")
	says(t, at+tick0+"load\nstart\n"+tick0+"cell 1", "ran FAST SLOW", "INT=5")
}
