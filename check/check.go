// Package check: the two bytes by which a frame or a record shows that it is whole.
package check

// Size is how many bytes a check takes.
const Size = 2

// sum is 16 bits wide, so that the modulus of 65536 is its wrap-round.
func sum(b []byte) uint16 {
	s := uint16(7)
	for _, x := range b {
		s = s*31 + uint16(x)
	}
	return s
}

// Append puts the check of b behind b, whose spare room must be the caller's own.
func Append(b []byte) []byte {
	s := sum(b)
	return append(b, byte(s), byte(s>>8))
}

// Strip takes the check off the end of b, and tells whether it was right.
func Strip(b []byte) (content []byte, ok bool) {
	n := len(b) - Size
	if n < 0 {
		return nil, false
	}
	s := sum(b[:n])
	if b[n] != byte(s) || b[n+1] != byte(s>>8) {
		return nil, false
	}
	return b[:n], true
}
