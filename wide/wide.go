// Package wide is layer 1: numbers of 128 bits, each told by its higher and its lower 64 bits.
package wide

// base is one more than the greatest half of a number of 64 bits.
const base = 1 << 32

// split tells both halves of a number, the lower one first.
func split(n uint64) [2]uint64 {
	return [2]uint64{n % base, n / base}
}

// join tells the number of which high and low are the halves, without what of it is beyond 64 bits.
func join(high, low uint64) uint64 {
	return high*base + low
}

// quarters tells the four halves of a number of 128 bits, the lowest one first.
func quarters(hi, lo uint64) [4]uint64 {
	h, l := split(hi), split(lo)
	return [4]uint64{l[0], l[1], h[0], h[1]}
}

// whole tells the number of 128 bits whose four halves are given, the lowest one first.
func whole(q [4]uint64) (uint64, uint64) {
	return join(q[3], q[2]), join(q[1], q[0])
}

// Mul tells a times b, the higher 64 bits first.
func Mul(a, b uint64) (uint64, uint64) {
	x, y := split(a), split(b)
	var product [4]uint64
	for i := range 2 {
		carry := uint64(0)
		for j := range 2 {
			// (base-1)^2 and twice base-1 come to base^2-1: it never goes round.
			sum := product[i+j] + x[i]*y[j] + carry
			product[i+j], carry = sum%base, sum/base
		}
		product[i+2] = carry
	}
	return whole(product)
}

// Plus tells the sum of two numbers without its 129th bit, and whether that one is set.
func Plus(ah, al, bh, bl uint64) (uint64, uint64, bool) {
	x, y := quarters(ah, al), quarters(bh, bl)
	var sum [4]uint64
	carry := uint64(0)
	for i := range 4 {
		part := x[i] + y[i] + carry
		sum[i], carry = part%base, part/base
	}
	hi, lo := whole(sum)
	return hi, lo, carry > 0
}

// Less tells whether the first number is below the second one.
func Less(ah, al, bh, bl uint64) bool {
	return ah < bh || ah == bh && al < bl
}

// Div tells how often d is in a number, the rest, and true; or false, where the quotient may have more than 64 bits.
func Div(hi, lo, d uint64) (uint64, uint64, bool) {
	if hi >= d {
		return 0, 0, false
	}
	// A guess from the divisor's upper half is good only if its highest bit is set.
	shift := 63 - Log(d)
	d <<= shift
	rest, next := hi<<shift|lo>>(64-shift), split(lo<<shift)
	var quotient [2]uint64
	for i := range 2 {
		quotient[1-i], rest = divHalf(rest, next[1-i], d)
	}
	return join(quotient[1], quotient[0]), rest >> shift, true
}

// divHalf tells how often d, whose highest bit is set, is in rest and the half behind it, and what is left; rest is below d.
func divHalf(rest, next, d uint64) (uint64, uint64) {
	part := split(d)
	guess, over := rest/part[1], rest%part[1]
	// rest is below d, so the guess is base+1 at most: its product with a half fits.
lower:
	for guess*part[0] > join(over, next) {
		guess--
		over += part[1]
		// Where over has no room in a half, it outweighs what the lower half of d takes away.
		if over >= base {
			break lower
		}
	}
	// Both terms may go round; what is between them is below d all the same.
	return guess, join(rest, next) - guess*d
}

// Sqrt tells the greatest number whose square is not above the one that is given.
func Sqrt(hi, lo uint64) uint64 {
	root := uint64(0)
bits:
	for i := range 64 {
		try := root | 1<<(63-i)
		high, low := Mul(try, try)
		if Less(hi, lo, high, low) {
			continue bits
		}
		root = try
		if high == hi && low == lo {
			break bits
		}
	}
	return root
}

// Log tells how many bits n has, less one.
func Log(n uint64) int {
	highest := -1
bits:
	for i := range 64 {
		if n>>i == 0 {
			break bits
		}
		highest = i
	}
	return highest
}
