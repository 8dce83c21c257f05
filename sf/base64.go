package sf

import "strings"

const (
	// signs64 tells six bits by the place of each sign.
	signs64 = "ABCDEFGHIJKLMNOPQRSTUVWXYZabcdefghijklmnopqrstuvwxyz0123456789+/"
	// fill has no bits; it makes up groups of signs at the end.
	fill  = "="
	group = 4
	// signBits and byteBits are how many bits a sign tells, and a byte has.
	signBits = 6
	byteBits = 8
	lowBits  = 1<<signBits - 1
)

func in64(b byte) bool { return strings.IndexByte(signs64+fill, b) >= 0 }

// encode64 tells data in base64, filled up.
func encode64(data []byte) string {
	var text strings.Builder
	// What is held above count bits is told already, and goes away at the top.
	held, count := uint32(0), 0
	for _, b := range data {
		held = held<<byteBits | uint32(b)
		count += byteBits
		for count >= signBits {
			count -= signBits
			text.WriteByte(signs64[held>>count&lowBits])
		}
	}
	if count > 0 {
		text.WriteByte(signs64[held<<(signBits-count)&lowBits])
	}
	text.WriteString(strings.Repeat(fill, lacking(text.Len())))
	return text.String()
}

// decode64 reads text, which has only signs of base64, filled up or not. Bits that are left over count for nothing.
func decode64(text string) ([]byte, bool) {
	signs := strings.TrimRight(text, fill)
	fills := len(text) - len(signs)
	// One sign alone has not bits enough for a byte.
	if len(signs)%group == 1 || fills != 0 && fills != lacking(len(signs)) {
		return nil, false
	}
	var data []byte
	held, count := uint32(0), 0
	for i := range len(signs) {
		place := strings.IndexByte(signs64, signs[i])
		if place < 0 {
			return nil, false
		}
		held = held<<signBits | uint32(place)
		count += signBits
		if count >= byteBits {
			count -= byteBits
			data = append(data, byte(held>>count))
		}
	}
	return data, true
}

// lacking tells how many signs make n up to groups.
func lacking(n int) int { return (group - n%group) % group }
