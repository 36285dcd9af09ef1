// Package num is layer 1: see shared/doc/01-num.md.
package num

import (
	"math"
	"math/bits"
	"strings"

	"quillon/api"
)

const (
	halfWidth = api.MaxWidth / 2
	byteWidth = 8
	maxBytes  = api.MaxWidth / byteWidth
	maxDigits = 39 // those of 2^128 - 1
)

func Of(n uint64) api.Num { return api.Num{Lo: n} }

func Cmp(a, b api.Num) int {
	switch {
	case a == b:
		return 0
	case a.Hi < b.Hi || a.Hi == b.Hi && a.Lo < b.Lo:
		return -1
	}
	return 1
}

func Mask(w int) api.Num {
	ones := api.Num{Hi: math.MaxUint64, Lo: math.MaxUint64}
	return Shr(ones, api.MaxWidth-held(w, api.MaxWidth))
}

func Cut(n api.Num, w int) api.Num { return And(n, Mask(w)) }

func Fits(n api.Num, w int) bool { return Cut(n, w) == n }

func And(a, b api.Num) api.Num {
	return halves(a, b, func(x, y uint64) uint64 { return x & y })
}

func Or(a, b api.Num) api.Num {
	return halves(a, b, func(x, y uint64) uint64 { return x | y })
}

func Xor(a, b api.Num) api.Num {
	return halves(a, b, func(x, y uint64) uint64 { return x ^ y })
}

func Not(n api.Num, w int) api.Num { return Xor(Cut(n, w), Mask(w)) }

func Add(a, b api.Num, w int) api.Num {
	lo, carry := bits.Add64(a.Lo, b.Lo, 0)
	hi, _ := bits.Add64(a.Hi, b.Hi, carry)
	return Cut(api.Num{Hi: hi, Lo: lo}, w)
}

func Sub(a, b api.Num, w int) api.Num {
	lo, borrow := bits.Sub64(a.Lo, b.Lo, 0)
	hi, _ := bits.Sub64(a.Hi, b.Hi, borrow)
	return Cut(api.Num{Hi: hi, Lo: lo}, w)
}

func Shl(n api.Num, k, w int) api.Num {
	k = held(k, api.MaxWidth)
	if k >= halfWidth {
		return Cut(api.Num{Hi: n.Lo << (k - halfWidth)}, w)
	}
	return Cut(api.Num{Hi: n.Hi<<k | n.Lo>>(halfWidth-k), Lo: n.Lo << k}, w)
}

func Shr(n api.Num, k int) api.Num {
	k = held(k, api.MaxWidth)
	if k >= halfWidth {
		return api.Num{Lo: n.Hi >> (k - halfWidth)}
	}
	return api.Num{Hi: n.Hi >> k, Lo: n.Lo>>k | n.Hi<<(halfWidth-k)}
}

func Bit(n api.Num, i int) bool { return i >= 0 && Shr(n, i).Lo&1 == 1 }

func Slice(n api.Num, hi, lo int) api.Num {
	if lo < 0 || hi < lo {
		return api.Num{}
	}
	// Without the bound hi-lo+1 would wrap round at the greatest int.
	return Cut(Shr(n, lo), min(hi-lo, api.MaxWidth)+1)
}

func Cat(a, b api.Num, w int) api.Num {
	// The width isn't held to 0 to 128: a shift and a cut by one beyond are those by the nearest one.
	return Or(Shl(a, w, api.MaxWidth), Cut(b, w))
}

func Bytes(n api.Num, many int) []byte {
	b := make([]byte, held(many, maxBytes))
	for i := range b {
		b[len(b)-1-i] = byte(Shr(n, i*byteWidth).Lo)
	}
	return b
}

func From(b []byte) api.Num {
	n := api.Num{}
	for _, x := range b[max(len(b)-maxBytes, 0):] {
		n = Cat(n, Of(uint64(x)), byteWidth)
	}
	return n
}

func Parse(s string) (api.Num, api.Errno) {
	base := uint64(10)
	if behind, is := strings.CutPrefix(s, "0x"); is {
		s, base = behind, 16
	}
	if s == "" {
		return api.Num{}, api.ErrForm
	}
	n, over := api.Num{}, false
	for _, r := range s {
		d, is := digit(r, base)
		if !is {
			return api.Num{}, api.ErrForm
		}
		// A number that is too great is read on: a sign behind that is no digit makes it ErrForm.
		if !over {
			n, over = withDigit(n, base, d)
		}
	}
	if over {
		return api.Num{}, api.ErrOver
	}
	return n, api.OK
}

func Text(n api.Num) string {
	var b [maxDigits]byte
	at := len(b) - 1
	for ; ; at-- {
		lo, d := bits.Div64(n.Hi%10, n.Lo, 10)
		b[at] = '0' + byte(d)
		n = api.Num{Hi: n.Hi / 10, Lo: lo}
		if n == Of(0) {
			return string(b[at:])
		}
	}
}

// held keeps what callers hand in within what slices and shifts can be made with: below 0 these panic.
func held(n, most int) int { return min(max(n, 0), most) }

func halves(a, b api.Num, join func(x, y uint64) uint64) api.Num {
	return api.Num{Hi: join(a.Hi, b.Hi), Lo: join(a.Lo, b.Lo)}
}

func digit(r rune, base uint64) (uint64, bool) {
	d := base // no digit is as great, so that a sign of no case below is refused
	switch {
	case '0' <= r && r <= '9':
		d = uint64(r - '0')
	case 'a' <= r && r <= 'f':
		d = uint64(r-'a') + 10
	case 'A' <= r && r <= 'F':
		d = uint64(r-'A') + 10
	}
	return d, d < base
}

// withDigit tells also whether the number with one more digit behind is above 2^128 - 1: the upper half then has a carry that the number has no room for.
func withDigit(n api.Num, base, d uint64) (longer api.Num, over bool) {
	up, lo := bits.Mul64(n.Lo, base)
	lo, carry := bits.Add64(lo, d, 0)
	lost, hi := bits.Mul64(n.Hi, base)
	hi, carry = bits.Add64(hi, up, carry)
	return api.Num{Hi: hi, Lo: lo}, lost+carry > 0
}
