package wire_test

import (
	"math/big"

	"paritymill/api"
)

// The bounds are written out, so that they share no number with the program.
const (
	mostRows  = 20
	mostParts = 12
	mostSize  = 16
	modulus   = 65521
)

// modelSum takes all bytes as one number, and its rest.
func modelSum(b string) int {
	number := new(big.Int).SetBytes([]byte(b))
	return int(number.Mod(number, big.NewInt(modulus)).Int64())
}

// summed has the sum behind what is ahead of it, be that right or not.
func summed(ahead string) string {
	sum := modelSum(ahead)
	return ahead + string([]byte{byte(sum >> 8), byte(sum & 255)})
}

// modelPack asks one by one, and writes byte by byte.
func modelPack(row int, parts []string) (string, api.Errno) {
	if row < 0 || row > mostRows-1 {
		return "", api.ErrRange
	}
	if len(parts) >= mostParts+1 {
		return "", api.ErrFull
	}
	long := 0
	for i, p := range parts {
		if i == 0 {
			long = len(p)
		}
		if len(p) != long {
			return "", api.ErrShape
		}
	}
	if long >= mostSize+1 {
		return "", api.ErrRange
	}
	return summed(forged(row, len(parts), long, parts...)), api.OK
}

// forged has numbers ahead of parts, whether they are those of the parts or not.
func forged(row, count, size int, parts ...string) string {
	b := []byte{byte(row), byte(count), byte(size)}
	for _, p := range parts {
		for i := range len(p) {
			b = append(b, p[i])
		}
	}
	return string(b)
}

// reader takes bytes from the beginning on.
type reader struct {
	left  string
	short bool
}

// take so many; where they are not there, it is short from then on.
func (r *reader) take(n int) string {
	if n > len(r.left) {
		r.short = true
		return ""
	}
	taken := r.left[:n]
	r.left = r.left[n:]
	return taken
}

func (r *reader) number() int {
	if b := r.take(1); !r.short {
		return int(b[0])
	}
	return 0
}

// modelUnpack reads from the beginning to the end, and tells no more than whether anything was wrong.
func modelUnpack(b string) (int, []string, api.Errno) {
	r := &reader{left: b}
	row, count, size := r.number(), r.number(), r.number()
	var parts []string
	for range count {
		parts = append(parts, r.take(size))
	}
	read := len(b) - len(r.left)
	high, low := r.number(), r.number()
	wrong := r.short || r.left != "" || row > mostRows-1 || count > mostParts || size > mostSize
	if wrong || count == 0 && size != 0 || high*256+low != modelSum(b[:read]) {
		return 0, nil, api.ErrSyntax
	}
	return row, parts, api.OK
}

// does are all bytes with which bytes unpack, if they stand at a place.
func does(b string, at int) (out []byte) {
	for one := range 256 {
		if _, _, told := modelUnpack(with(b, at, byte(one))); told == api.OK {
			out = append(out, byte(one))
		}
	}
	return out
}

// with has a byte at a place.
func with(b string, at int, one byte) string {
	out := []byte(b)
	out[at] = one
	return string(out)
}

func modelMend(b string, at int) (string, api.Errno) {
	if at <= -1 || at > len(b)-1 {
		return "", api.ErrRange
	}
	if good := does(b, at); len(good) > 0 {
		return with(b, at, good[0]), api.OK
	}
	return "", api.ErrNone
}
