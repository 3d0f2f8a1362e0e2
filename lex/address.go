package lex

// How many digits an address has at most.
const maxAddressDigits = 4

// addressBits is how many bits stand at an address with such a letter; 0 of no such one.
func addressBits(letter byte) int {
	switch capital(letter) {
	case 'X':
		return 1
	case 'B':
		return 8
	case 'W':
		return 16
	case 'D':
		return 32
	case 'L':
		return 64
	}
	return 0
}

func isArea(letter byte) bool {
	c := capital(letter)
	return c == 'I' || c == 'Q' || c == 'M'
}

// addressEnd is the place behind the address that begins at i; -1, if none does.
func addressEnd(s string, i int) int {
	if byteAt(s, i) != '%' || !isArea(byteAt(s, i+1)) || addressBits(byteAt(s, i+2)) == 0 {
		return -1
	}
	from := i + 3
	end := runEnd(s, from, isDigit)
	count := end - from
	if count < 1 || count > maxAddressDigits || count > 1 && s[from] == '0' {
		return -1
	}
	if addressBits(s[i+2]) > 1 {
		return end
	}
	if bit := byteAt(s, end+1); byteAt(s, end) != '.' || bit < '0' || bit > '7' {
		return -1
	}
	return end + 2
}
