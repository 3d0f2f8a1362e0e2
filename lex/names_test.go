package lex_test

import (
	"strings"
	"testing"

	"relay/api"
	"relay/lex"
)

// P3.2: names.
func TestIsName(t *testing.T) {
	for _, s := range []string{"a", "Z", "a_9", "A__", "IF", "true", "INT", strings.Repeat("x", api.MaxName), "a" + strings.Repeat("_", api.MaxName-1)} {
		if !lex.IsName(s) {
			t.Error(s)
		}
	}
	for _, s := range []string{"", "_a", "9a", "a b", "a.", " a", "a ", "a#", "é", "aé", "a\x00", "a-b", strings.Repeat("x", api.MaxName+1), strings.Repeat("x", 1<<17)} {
		if lex.IsName(s) {
			t.Errorf("%.40q", s)
		}
	}
	for c := range 256 {
		one := string([]byte{byte(c)})
		isLetter := c >= 'a' && c <= 'z' || c >= 'A' && c <= 'Z'
		isInner := isLetter || c >= '0' && c <= '9' || c == '_'
		if lex.IsName(one) != isLetter || lex.IsName("a"+one) != isInner {
			t.Error(c)
		}
	}
}

// P3.2: addresses.
func TestIsAddr(t *testing.T) {
	widths := map[string]int{"X": 1, "B": 8, "W": 16, "D": 32, "L": 64}
	areas := map[string]int{"I": 1, "Q": 2, "M": 0}
	for a, dir := range areas {
		for w, bits := range widths {
			for _, n := range []string{"0", "7", "10", "999", "9999"} {
				for _, bit := range []string{"", ".0", ".3", ".7", ".8", ".9", ".", ".00", ".-1"} {
					s := "%" + a + w + n + bit
					is := (w == "X") == (bit == ".0" || bit == ".3" || bit == ".7") && (w == "X" || bit == "")
					gotBits, gotDir, ok := lex.IsAddr(s)
					if ok != is || ok && (gotBits != bits || gotDir != dir) || !ok && (gotBits != 0 || gotDir != 0) {
						t.Error(s, gotBits, gotDir, ok)
					}
				}
			}
		}
	}
	for _, s := range []string{"", "%", "%I", "%IX", "%IB", "%ib0", "%iB0", "%Ib0", "%IB00", "%IB01", "%IB10000", "IB0", " %IB0", "%IB0 ", "%IB0;", "%IB0a", "%IX0,0", "%AB0", "%I0", "%IX0.0.0", "%QX00.0", "%%B0", "%IB0_", "%IB0\x00"} {
		if bits, dir, ok := lex.IsAddr(s); bits != 0 || dir != 0 || ok {
			t.Error(s, bits, dir, ok)
		}
	}
}

// P3.2 and P3.1 say the same of words.
func TestNamesAreScanned(t *testing.T) {
	for _, s := range pieces {
		l, err := lex.Scan(s)
		one := err == nil && len(l) == 1 && l[0].At == 0 && l[0].End == len(s)
		isBool := one && l[0].Value.Kind == api.KBool && !strings.Contains(s, "#")
		if lex.IsName(s) != (one && (l[0].Kind == api.TokName || l[0].Kind == api.TokWord || isBool)) {
			t.Error(s, l, err)
		}
		if _, _, ok := lex.IsAddr(upper(s)); ok != (one && l[0].Kind == api.TokAddr) {
			t.Error(s, l, err)
		}
	}
}
