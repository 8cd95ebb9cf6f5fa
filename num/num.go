// Package num has numbers as texts and as bytes.
package num

import (
	"math"
	"strings"

	"paravent/api"
)

// What the greatest number needs.
const (
	mostDigits = 20
	mostBytes  = 8
)

// hexDigits are the digits of hex texts; capital ones are none of them.
const hexDigits = "0123456789abcdef"

// Text is a number's text.
func Text(n uint64) string {
	var digits [mostDigits]byte
	first := mostDigits - 1
	for i := range mostDigits {
		at := mostDigits - 1 - i
		digits[at] = '0' + byte(n%10)
		if n != 0 {
			first = at
		}
		n /= 10
	}
	return string(digits[first:])
}

// Parse is the number of a text.
func Parse(s string) (uint64, api.Errno) {
	if len(s) == 0 || len(s) > mostDigits || len(s) > 1 && s[0] == '0' {
		return 0, api.ErrNumber
	}
	n := uint64(0)
	for i := range len(s) {
		if s[i] < '0' || s[i] > '9' {
			return 0, api.ErrNumber
		}
		digit := uint64(s[i] - '0')
		if n > (math.MaxUint64-digit)/10 {
			return 0, api.ErrNumber
		}
		n = n*10 + digit
	}
	return n, api.OK
}

// split is all of a number's bytes.
func split(n uint64) [mostBytes]byte {
	var all [mostBytes]byte
	for i := range mostBytes {
		all[mostBytes-1-i] = byte(n)
		n >>= 8
	}
	return all
}

// Put is a number's bytes, so many.
func Put(n uint64, wide int) ([]byte, api.Errno) {
	if wide < 1 || wide > mostBytes {
		return nil, api.ErrArg
	}
	all := split(n)
	left := mostBytes - wide
	for i := range left {
		if all[i] != 0 {
			return nil, api.ErrArg
		}
	}
	return all[left:], api.OK
}

// Get is the number of bytes.
func Get(b []byte) (uint64, api.Errno) {
	if len(b) < 1 || len(b) > mostBytes {
		return 0, api.ErrArg
	}
	n := uint64(0)
	for _, one := range b {
		n = n<<8 | uint64(one)
	}
	return n, api.OK
}

// Hex is a number's hex text.
func Hex(n uint64) string {
	var digits [2 * mostBytes]byte
	for i, one := range split(n) {
		digits[2*i] = hexDigits[one>>4]
		digits[2*i+1] = hexDigits[one&15]
	}
	return string(digits[:])
}

// ReadHex is the number of a hex text.
func ReadHex(s string) (uint64, api.Errno) {
	if len(s) != 2*mostBytes {
		return 0, api.ErrHex
	}
	n := uint64(0)
	for i := range len(s) {
		digit := strings.IndexByte(hexDigits, s[i])
		if digit < 0 {
			return 0, api.ErrHex
		}
		n = n<<4 | uint64(digit)
	}
	return n, api.OK
}

// Plus is a sum, or the most that it may be.
func Plus(a, b, most uint64) uint64 {
	// The sum itself may not fit into 64 bits, so what is left up to the most is asked.
	if a > most || b > most-a {
		return most
	}
	return a + b
}
