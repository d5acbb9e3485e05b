// Package serial is layer 1: see shared/doc/01-serial.md.
package serial

// Low returns n modulo 2^bits; bits is limited to the range from 0 to 64.
func Low(n uint64, bits int) uint64 {
	bits = max(0, min(bits, 64))
	// A shift by 64 yields 0, so that 64 bits keep the whole number.
	return n & (uint64(1)<<bits - 1)
}

// Diff returns the distance from a to b modulo 2^16, as a number from -32768 to 32767.
func Diff(a, b uint16) int {
	return int(int16(b - a))
}

// Add returns a plus n modulo 2^16.
func Add(a uint16, n int) uint16 {
	return a + uint16(n)
}

// Passed reports whether an instant has come when the counter is now.
func Passed(now, instant uint16) bool {
	return Diff(instant, now) >= 0
}

// Between reports whether n is on the way up from first to last, both included.
func Between(first, last, n uint16) bool {
	return n-first <= last-first
}

// Extend returns the number nearest to last that is congruent to low modulo 2^bits, and of two equally near ones the greater; bits is limited to the range from 1 to 63.
func Extend(last, low uint64, bits int) uint64 {
	bits = max(1, min(bits, 63))
	step := uint64(1) << bits
	same := last - Low(last, bits) + Low(low, bits)
	// A neighbour that wraps around is congruent as well, because step divides 2^64, and it is compared as the number that it has become: no result lies outside the range.
	candidates := [3]uint64{same - step, same, same + step}
	nearest := same
	for _, n := range candidates {
		if nearer(n, nearest, last) {
			nearest = n
		}
	}
	return nearest
}

// nearer reports whether n is to be preferred to m as the neighbour of last.
func nearer(n, m, last uint64) bool {
	dn, dm := distance(n, last), distance(m, last)
	return dn < dm || dn == dm && n > m
}

func distance(a, b uint64) uint64 {
	return max(a, b) - min(a, b)
}
