package desk

import (
	"strconv"
	"strings"

	"relay/api"
	"relay/value"
)

// mostDigits is how many digits a number has at most.
const mostDigits = 15

// parts is a line's words, the command first.
func (c command) parts(line string) []string {
	if c.isText {
		return strings.SplitN(line, " ", 2)
	}
	return strings.Split(line, " ")
}

// takes tells whether a line's words are those that a command wants.
func (c command) takes(words []string) bool {
	if len(words) != 1+c.words {
		return false
	}
	if c.isNumber {
		_, is := read(words[1])
		return is
	}
	return true
}

// read is the number that a word is.
func read(word string) (int, bool) {
	if len(strings.TrimPrefix(word, "-")) > mostDigits {
		return 0, false
	}
	n, err := strconv.Atoi(word)
	// A number has one form: no noughts ahead, no sign but that of one below 0.
	if err != nil || digits(n) != word {
		return 0, false
	}
	return n, true
}

func digits(n int) string { return strconv.Itoa(n) }

// joined is an answer of a word, and of others behind it.
func joined(word string, others ...string) string {
	return strings.Join(append([]string{word}, others...), " ")
}

// valueOf is the value of a kind that a word is.
func valueOf(k api.Kind, word string) (api.Value, bool) {
	if k == api.KBool {
		return value.Bool(word == "TRUE"), word == "TRUE" || word == "FALSE"
	}
	n, is := read(word)
	v, fault := value.Int(k, n)
	return v, is && fault == api.FaultNone
}

// modeWord is a mode's name.
func modeWord(mode int) string {
	switch mode {
	case api.ModeRun:
		return "running"
	case api.ModeFault:
		return "failed"
	}
	return "stopped"
}
