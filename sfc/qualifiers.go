package sfc

// isPlain tells whether a name is a qualifier without a time.
func isPlain(qual string) bool {
	switch qual {
	case "N", "S", "R", "P", "P0", "P1":
		return true
	}
	return false
}

// isTimed tells whether a name is a qualifier with a time.
func isTimed(qual string) bool {
	switch qual {
	case "L", "D", "SD", "DS", "SL":
		return true
	}
	return false
}
