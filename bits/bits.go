// Package bits: numbers and bytes (chapter 1).
package bits

import "springhouse/api"

// maxWidth is the most bytes of a number: six of them fit into an int with room for its sign.
const maxWidth = 6

const (
	fnvStart = 14695981039346656037
	fnvPrime = 1099511628211
)

const hexDigits = "0123456789abcdef"

// crcSteps has for each four bits what four single steps by the polynomial EDB88320 make of them:
// a table for whole bytes would be longer than the language's rules allow.
var crcSteps = [16]uint32{
	0x00000000, 0x1DB71064, 0x3B6E20C8, 0x26D930AC,
	0x76DC4190, 0x6B6B51F4, 0x4DB26158, 0x5005713C,
	0xEDB88320, 0xF00F9344, 0xD6D6A3E8, 0xCB61B38C,
	0x9B64C2B0, 0x86D3D2D4, 0xA00AE278, 0xBDBDF21C,
}

// Put tells n in width bytes, the greatest first.
func Put(n, width int) ([]byte, api.Errno) {
	if !isWidth(width) || !fits(n, width) {
		return nil, api.ErrRange
	}
	out := make([]byte, width)
	rest := uint64(n)
	for i := width - 1; i >= 0; i-- {
		out[i] = byte(rest)
		rest >>= 8
	}
	return out, api.OK
}

// Get tells the number that stands in width bytes of b from at on.
func Get(b []byte, at, width int) (int, api.Errno) {
	if !isWidth(width) || at < 0 || at > len(b) {
		return 0, api.ErrRange
	}
	// Not at+width > len(b): a difference of what was checked can't wrap.
	if len(b)-at < width {
		return 0, api.ErrShort
	}
	var n uint64
	for _, c := range b[at : at+width] {
		n = n<<8 | uint64(c)
	}
	return int(n), api.OK
}

func isWidth(width int) bool { return 1 <= width && width <= maxWidth }

func fits(n, width int) bool { return n >= 0 && uint64(n)>>(8*uint(width)) == 0 }

// Crc is the CRC-32 of IEEE.
func Crc(b []byte) uint32 {
	sum := ^uint32(0)
	for _, c := range b {
		sum ^= uint32(c)
		sum = sum>>4 ^ crcSteps[sum&15]
		sum = sum>>4 ^ crcSteps[sum&15]
	}
	return ^sum
}

// Fnv is the FNV-1a sum in 64 bits.
func Fnv(b []byte) uint64 {
	sum := uint64(fnvStart)
	for _, c := range b {
		sum = (sum ^ uint64(c)) * fnvPrime
	}
	return sum
}

// Turn turns x to the left by n bits, to the right where n is below 0.
func Turn(x uint32, n int) uint32 {
	// The low five bits of a number below 0 are already its rest by 32 from 0 on: -1 is 31 to the left.
	left := uint32(n) & 31
	return x<<left | x>>(32-left)
}

// Clip brings n to 0 to Never.
func Clip(n int) int { return min(max(n, 0), api.Never) }

// Add is the sum of both, each clipped ahead so that nothing wraps, Never at most.
func Add(a, b int) int { return Clip(Clip(a) + Clip(b)) }

// Sub is a less b, each clipped ahead so that nothing wraps, 0 at least.
func Sub(a, b int) int { return Clip(Clip(a) - Clip(b)) }

// Hex tells b by two small digits of 16 a byte.
func Hex(b []byte) string {
	out := make([]byte, 0, 2*len(b))
	for _, c := range b {
		out = append(out, hexDigits[c>>4], hexDigits[c&15])
	}
	return string(out)
}

// Unhex tells the bytes whose Hex s is.
func Unhex(s string) ([]byte, bool) {
	if len(s)%2 != 0 {
		return nil, false
	}
	out := make([]byte, len(s)/2)
	for i := range out {
		high, okHigh := digit(s[2*i])
		low, okLow := digit(s[2*i+1])
		if !okHigh || !okLow {
			return nil, false
		}
		out[i] = high<<4 | low
	}
	return out, true
}

// digit takes no capitals: Hex writes none, so no bytes have them.
func digit(c byte) (byte, bool) {
	switch {
	case '0' <= c && c <= '9':
		return c - '0', true
	case 'a' <= c && c <= 'f':
		return c - 'a' + 10, true
	}
	return 0, false
}
