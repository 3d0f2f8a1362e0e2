package times

import (
	"strconv"
	"strings"
)

func printSpan(n int64) string {
	if n == 0 {
		return "0S"
	}
	text, left := "", uint64(n)
	if n < 0 {
		// As an unsigned number the least span has an opposite, too.
		text, left = "-", -left
	}
	for i := range units {
		count := left / uint64(units[i].nanos)
		left %= uint64(units[i].nanos)
		if count > 0 {
			text += strconv.FormatUint(count, 10) + units[i].name
		}
	}
	return text
}

// padded is a number in at least so many digits.
func padded(n, digits int) string {
	text := strconv.Itoa(n)
	return strings.Repeat("0", max(0, digits-len(text))) + text
}

func printDate(nanos uint64) string {
	y, m, d, _ := Civil(int(nanos / day))
	return padded(y, 4) + "-" + padded(m, 2) + "-" + padded(d, 2)
}

func printClock(nanos uint64) string {
	n := int(nanos)
	text := padded(n/hour, 2) + ":" + padded(n%hour/minute, 2) + ":" + padded(n%minute/second, 2)
	if n%second == 0 {
		return text
	}
	return text + "." + strings.TrimRight(padded(n%second, 9), "0")
}
