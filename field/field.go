// Package field has bytes as numbers: the elements of the field of 256.
package field

import (
	"paritymill/api"
)

const (
	// reduced is what x to the 8 is, modulo x^8 + x^4 + x^3 + x^2 + 1.
	reduced = 0x1d
	// nonzero is how many elements have an inverse; each of them to that power is 1.
	nonzero = 255
)

// Add is the sum: coefficients are 0 and 1, so that nothing is carried.
func Add(a, b byte) byte { return a ^ b }

// Mul is the product.
func Mul(a, b byte) byte {
	var product byte
	for b != 0 {
		if b&1 != 0 {
			product = Add(product, a)
		}
		a = timesX(a)
		b >>= 1
	}
	return product
}

// Inv is the element that times a is 1; 0 has none.
func Inv(a byte) (byte, error) {
	if a == 0 {
		return 0, api.ErrNone
	}
	// a to the 255 is 1, so one factor fewer is the inverse.
	return power(a, nonzero-1), nil
}

// Div is the element that times b is a; by 0 there is none.
func Div(a, b byte) (byte, error) {
	inverse, err := Inv(b)
	if err != nil {
		return 0, err
	}
	return Mul(a, inverse), nil
}

// Pow is a times itself, n of them; it is 1 if n is 0, even where a is 0.
func Pow(a byte, n int) (byte, error) {
	if n < 0 {
		return 0, api.ErrRange
	}
	return power(a, n), nil
}

// Log is the least n such that 2 to the n is a; 0 is no power of 2.
func Log(a byte) (int, error) {
	var reached byte = 1
	for n := range nonzero {
		if reached == a {
			return n, nil
		}
		reached = timesX(reached)
	}
	// The powers of 2 come by every element but 0, so a is 0.
	return 0, api.ErrNone
}

// timesX is a times 2, which is x.
func timesX(a byte) byte {
	if a&0x80 != 0 {
		return a<<1 ^ reduced
	}
	return a << 1
}

// power squares its way through the bits of n, as n may be any int that is not below 0.
func power(a byte, n int) byte {
	var product byte = 1
	for n > 0 {
		if n&1 != 0 {
			product = Mul(product, a)
		}
		a = Mul(a, a)
		n >>= 1
	}
	return product
}
