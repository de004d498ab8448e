package big

import (
	"cmp"
	"math/bits"
	"slices"
)

// factor is the greatest factor of a combination of two numbers: its products with digits are ints.
const factor = 1 << 30

// The functions of this file calculate with lists of digits, the lowest one first, the last one not 0.

func trim(l []int) []int {
	for len(l) > 0 && l[len(l)-1] == 0 {
		l = l[:len(l)-1]
	}
	return l
}

func compare(a, b []int) int {
	if len(a) != len(b) {
		return cmp.Compare(len(a), len(b))
	}
	for i := len(a) - 1; i >= 0; i-- {
		if a[i] != b[i] {
			return cmp.Compare(a[i], b[i])
		}
	}
	return 0
}

func add(a, b []int) []int {
	if len(a) < len(b) {
		a, b = b, a
	}
	l := make([]int, 0, len(a)+1)
	carry := 0
	for i, d := range a {
		n := d + carry
		if i < len(b) {
			n += b[i]
		}
		l = append(l, n&mask)
		carry = n >> width
	}
	if carry > 0 {
		l = append(l, carry)
	}
	return l
}

// sub returns a - b, where b is at most a.
func sub(a, b []int) []int {
	l := make([]int, len(a))
	borrow := 0
	for i, d := range a {
		n := d - borrow
		if i < len(b) {
			n -= b[i]
		}
		l[i] = n & mask
		borrow = n >> width & 1
	}
	return trim(l)
}

func mul(a, b []int) []int {
	if len(a) == 0 || len(b) == 0 {
		return nil
	}
	// Each element is a sum of at most 60 products of 40 bits: no int overflows.
	l := make([]int, len(a)+len(b))
	for i, x := range a {
		row := l[i : i+len(b)]
		for j, y := range b {
			row[j] += x * y
		}
	}
	carry := 0
	for i := range l {
		n := l[i] + carry
		l[i], carry = n&mask, n>>width
	}
	return trim(l)
}

// div returns the quotient and the remainder of a and b, of which b is not 0.
func div(a, b []int) ([]int, []int) {
	if compare(a, b) < 0 {
		return nil, slices.Clone(a)
	}
	if u, ok := magnitude(a); ok {
		v, _ := magnitude(b)
		return ofMagnitude(1, u/v).Digits, ofMagnitude(1, u%v).Digits
	}
	if len(b) == 1 {
		return divDigit(a, b[0])
	}
	return divLong(a, b)
}

func divDigit(a []int, d int) ([]int, []int) {
	q := make([]int, len(a))
	rest := 0
	for i := len(a) - 1; i >= 0; i-- {
		n := rest<<width | a[i]
		q[i], rest = n/d, n%d
	}
	return trim(q), trim([]int{rest})
}

// divLong divides as on paper: the first digits of both say what the next digit of the quotient is, or at most 2 more.
func divLong(a, b []int) ([]int, []int) {
	s := width - bits.Len(uint(b[len(b)-1]))
	u, v := shiftLeft(a, s), trim(shiftLeft(b, s))
	n := len(v)
	q := make([]int, len(a)-n+1)
	for j := len(q) - 1; j >= 0; j-- {
		top := u[j+n]<<width | u[j+n-1]
		guess := min(top/v[n-1], mask)
		for rest := top - guess*v[n-1]; rest <= mask && guess*v[n-2] > rest<<width|u[j+n-2]; rest += v[n-1] {
			guess--
		}
		if subtractTimes(u[j:j+n+1], v, guess) {
			guess--
			addBack(u[j:j+n+1], v)
		}
		q[j] = guess
	}
	return trim(q), trim(shiftRight(u[:n], s))
}

// subtractTimes subtracts v so many times from u, and reports whether it became negative.
func subtractTimes(u, v []int, times int) bool {
	carry := 0
	for i := range u {
		n := u[i] + carry
		if i < len(v) {
			n -= times * v[i]
		}
		u[i], carry = n&mask, n>>width
	}
	return carry < 0
}

func addBack(u, v []int) {
	carry := 0
	for i := range u {
		n := u[i] + carry
		if i < len(v) {
			n += v[i]
		}
		u[i], carry = n&mask, n>>width
	}
}

// shiftLeft returns one digit more than a has.
func shiftLeft(a []int, s int) []int {
	l := make([]int, len(a)+1)
	carry := 0
	for i, d := range a {
		n := d<<s | carry
		l[i], carry = n&mask, n>>width
	}
	l[len(a)] = carry
	return l
}

func shiftRight(a []int, s int) []int {
	l := make([]int, len(a))
	for i, d := range a {
		l[i] = d >> s
		if i+1 < len(a) {
			l[i] |= a[i+1] << (width - s) & mask
		}
	}
	return l
}

func gcd(a, b []int) []int {
	for {
		if compare(a, b) < 0 {
			a, b = b, a
		}
		if len(b) == 0 {
			return slices.Clone(a)
		}
		if u, ok := magnitude(a); ok {
			v, _ := magnitude(b)
			return ofMagnitude(1, gcdSmall(u, v)).Digits
		}
		m, ok := steps(a, b)
		if !ok {
			_, r := div(a, b)
			a, b = b, r
			continue
		}
		a, b = combine(m[0], a, m[1], b), combine(m[2], a, m[3], b)
	}
}

func gcdSmall(u, v uint64) uint64 {
	for v > 0 {
		u, v = v, u%v
	}
	return u
}

// steps returns as many steps of Euclid as the highest bits of a and b decide for certain (Lehmer): the new a is m[0] a + m[1] b, the new b is m[2] a + m[3] b.
func steps(a, b []int) ([4]int, bool) {
	x, y := lead(a, len(a)), lead(b, len(a))
	m := [4]int{1, 0, 0, 1}
	done := false
	for y+m[2] != 0 && y+m[3] != 0 {
		q := (x + m[0]) / (y + m[2])
		if q != (x+m[1])/(y+m[3]) {
			break
		}
		next := [4]int{m[2], m[3], m[0] - q*m[2], m[1] - q*m[3]}
		if max(next[2], -next[2], next[3], -next[3]) > factor {
			break
		}
		m, done = next, true
		x, y = y, x-q*y
	}
	return m, done
}

// lead returns the digits n - 1 to n - 3 of a number with at most n digits as one number.
func lead(a []int, n int) int {
	v := 0
	for i := n - 1; i >= n-3; i-- {
		v <<= width
		if i < len(a) {
			v |= a[i]
		}
	}
	return v
}

// combine returns p a + q b, which is not negative; a is the longer one.
func combine(p int, a []int, q int, b []int) []int {
	l := make([]int, len(a))
	carry := 0
	for i, d := range a {
		n := p*d + carry
		if i < len(b) {
			n += q * b[i]
		}
		l[i], carry = n&mask, n>>width
	}
	return trim(l)
}
