package bits_test

import (
	"bytes"
	"encoding/hex"
	"hash/crc32"
	"hash/fnv"
	"math"
	"math/big"
	mathbits "math/bits"
	"math/rand"
	"strings"
	"testing"

	"springhouse/api"
	"springhouse/bits"
)

// edgeInts are the numbers at which a sum, a shift or a bound could go wrong.
func edgeInts() []int {
	l := []int{math.MinInt, math.MinInt + 1, math.MaxInt - 1, math.MaxInt}
	for shift := range 63 {
		n := 1 << shift
		l = append(l, n-1, n, n+1, -n-1, -n, -n+1)
	}
	return l
}

func randomBytes(r *rand.Rand, n int) []byte {
	b := make([]byte, n)
	r.Read(b)
	return b
}

func TestPutBytes(t *testing.T) {
	for _, c := range []struct {
		n, width int
		want     []byte
	}{
		{258, 2, []byte{1, 2}},
		{0, 1, []byte{0}},
		{1, 1, []byte{1}},
		{255, 1, []byte{255}},
		{256, 2, []byte{1, 0}},
		{65535, 2, []byte{255, 255}},
		{65536, 3, []byte{1, 0, 0}},
		{0x010203, 3, []byte{1, 2, 3}},
		{0x01020304, 4, []byte{1, 2, 3, 4}},
		{0xFFFFFFFF, 4, []byte{255, 255, 255, 255}},
		{0x0102030405, 5, []byte{1, 2, 3, 4, 5}},
		{0x010203040506, 6, []byte{1, 2, 3, 4, 5, 6}},
		{0xF10203040506, 6, []byte{0xF1, 2, 3, 4, 5, 6}},
		{0, 6, []byte{0, 0, 0, 0, 0, 0}},
		{7, 5, []byte{0, 0, 0, 0, 7}},
	} {
		if b, e := bits.Put(c.n, c.width); !bytes.Equal(b, c.want) || e != api.OK {
			t.Errorf("P1.1: Put(%d, %d) = % x, %d", c.n, c.width, b, e)
		}
	}
}

func TestPutBounds(t *testing.T) {
	for width := 1; width <= 6; width++ {
		greatest := 1<<(8*width) - 1
		if b, e := bits.Put(greatest, width); e != api.OK || !bytes.Equal(b, bytes.Repeat([]byte{255}, width)) {
			t.Errorf("P1.1: Put(%d, %d) = % x, %d", greatest, width, b, e)
		}
		for _, n := range []int{greatest + 1, greatest + 2, 2*greatest + 2, -1, -greatest, -greatest - 1, math.MinInt, math.MaxInt} {
			if b, e := bits.Put(n, width); b != nil || e != api.ErrRange {
				t.Errorf("P1.1: Put(%d, %d) = % x, %d", n, width, b, e)
			}
		}
	}
	for _, width := range []int{0, 7, 8, 9, 64, -1, -2, -6, math.MinInt, math.MaxInt, 1<<32 + 1, 1<<61 + 1} {
		for _, n := range []int{0, 1, 255, -1, 1 << 48, math.MinInt, math.MaxInt} {
			if b, e := bits.Put(n, width); b != nil || e != api.ErrRange {
				t.Errorf("P1.1: Put(%d, %d) = % x, %d", n, width, b, e)
			}
		}
	}
}

func TestGet(t *testing.T) {
	b := []byte{0xF1, 2, 3, 0x84, 5, 6, 0xFF}
	for _, c := range []struct {
		at, width, want int
		e               api.Errno
	}{
		{0, 1, 0xF1, api.OK},
		{1, 1, 2, api.OK},
		{6, 1, 255, api.OK},
		{0, 2, 0xF102, api.OK},
		{5, 2, 0x06FF, api.OK},
		{1, 3, 0x020384, api.OK},
		{0, 4, 0xF1020384, api.OK},
		{2, 5, 0x03840506FF, api.OK},
		{0, 6, 0xF10203840506, api.OK},
		{1, 6, 0x0203840506FF, api.OK},
		{2, 6, 0, api.ErrShort},
		{6, 2, 0, api.ErrShort},
		{7, 1, 0, api.ErrShort},
		{7, 6, 0, api.ErrShort},
		{8, 1, 0, api.ErrRange},
		{-1, 1, 0, api.ErrRange},
		{math.MaxInt, 1, 0, api.ErrRange},
		{math.MaxInt, 6, 0, api.ErrRange},
		{math.MinInt, 6, 0, api.ErrRange},
		{0, 0, 0, api.ErrRange},
		{0, 7, 0, api.ErrRange},
		{0, -1, 0, api.ErrRange},
		{0, math.MaxInt, 0, api.ErrRange},
		{0, math.MinInt, 0, api.ErrRange},
		{7, 0, 0, api.ErrRange},
		{7, 7, 0, api.ErrRange},
		{8, 7, 0, api.ErrRange},
	} {
		if n, e := bits.Get(b, c.at, c.width); n != c.want || e != c.e {
			t.Errorf("P1.1: Get(%d, %d) = %x, %d", c.at, c.width, n, e)
		}
	}
}

func TestGetOfNothing(t *testing.T) {
	for _, b := range [][]byte{nil, {}, make([]byte, 0, 8)} {
		for _, c := range []struct {
			at, width int
			e         api.Errno
		}{{0, 1, api.ErrShort}, {0, 6, api.ErrShort}, {0, 0, api.ErrRange}, {0, 7, api.ErrRange}, {1, 1, api.ErrRange}, {-1, 1, api.ErrRange}} {
			if n, e := bits.Get(b, c.at, c.width); n != 0 || e != c.e {
				t.Errorf("P1.1: Get(nothing, %d, %d) = %d, %d", c.at, c.width, n, e)
			}
		}
	}
}

func TestCrc(t *testing.T) {
	for text, want := range map[string]uint32{"": 0, "a": 0xE8B7BE43, "123456789": 0xCBF43926, "\x00": 0xD202EF8D, "\xff": 0xFF000000} {
		if x := bits.Crc([]byte(text)); x != want {
			t.Errorf("P1.2: Crc(%q) = %X", text, x)
		}
	}
	for c := range 256 {
		b := []byte{byte(c)}
		if x := bits.Crc(b); x != crc32.ChecksumIEEE(b) {
			t.Errorf("P1.2: Crc(%02x) = %X", c, x)
		}
	}
	r := rand.New(rand.NewSource(2))
	for n := range 300 {
		b := randomBytes(r, n)
		if x := bits.Crc(b); x != crc32.ChecksumIEEE(b) {
			t.Errorf("P1.2: Crc(% x) = %X", b, x)
		}
	}
	if b := randomBytes(r, api.MaxFrame); bits.Crc(b) != crc32.ChecksumIEEE(b) {
		t.Error("P1.2: Crc of a long one")
	}
}

func TestFnv(t *testing.T) {
	for text, want := range map[string]uint64{"": 14695981039346656037, "a": 0xAF63DC4C8601EC8C, "foobar": 0x85944171F73967E8} {
		if x := bits.Fnv([]byte(text)); x != want {
			t.Errorf("P1.2: Fnv(%q) = %X", text, x)
		}
	}
	r := rand.New(rand.NewSource(3))
	for n := range 300 {
		b := randomBytes(r, n)
		h := fnv.New64a()
		h.Write(b)
		if x := bits.Fnv(b); x != h.Sum64() {
			t.Errorf("P1.2: Fnv(% x) = %X", b, x)
		}
	}
}

func TestTurn(t *testing.T) {
	for _, c := range []struct {
		x    uint32
		n    int
		want uint32
	}{
		{1, 0, 1},
		{1, 1, 2},
		{1, 31, 0x80000000},
		{1, 32, 1},
		{1, 33, 2},
		{1, 64, 1},
		{1, -1, 0x80000000},
		{1, -31, 2},
		{1, -32, 1},
		{1, -33, 0x80000000},
		{0x80000001, 4, 0x18},
		{0xF, -4, 0xF0000000},
		{0x12345678, 8, 0x34567812},
		{0x12345678, -8, 0x78123456},
		{0x12345678, 1 << 32, 0x12345678},
		{0x12345678, 1<<32 + 8, 0x34567812},
		{0x12345678, -1<<32 - 8, 0x78123456},
		{0x12345678, math.MinInt, 0x12345678},
		{0x12345678, math.MinInt + 8, 0x34567812},
		{1, math.MaxInt, 0x80000000},
		{0, -5, 0},
		{math.MaxUint32, 17, math.MaxUint32},
	} {
		if x := bits.Turn(c.x, c.n); x != c.want {
			t.Errorf("P1.2: Turn(%x, %d) = %x", c.x, c.n, x)
		}
	}
	for n := -100; n <= 100; n++ {
		if x := bits.Turn(0x8A5F0311, n); x != mathbits.RotateLeft32(0x8A5F0311, n) {
			t.Errorf("P1.2: Turn by %d = %x", n, x)
		}
	}
}

func TestClip(t *testing.T) {
	for n, want := range map[int]int{
		0: 0, 1: 1, 7: 7, -1: 0, math.MinInt: 0, math.MaxInt: api.Never,
		api.Never - 1: api.Never - 1, api.Never: api.Never, api.Never + 1: api.Never, -api.Never: 0, 1 << 32: api.Never,
	} {
		if x := bits.Clip(n); x != want {
			t.Errorf("P1.3: Clip(%d) = %d", n, x)
		}
	}
}

func TestAddAndSub(t *testing.T) {
	for _, c := range []struct{ a, b, sum, less int }{
		{0, 0, 0, 0},
		{5, 3, 8, 2},
		{3, 5, 8, 0},
		{4, 4, 8, 0},
		{-5, 3, 3, 0},
		{3, -5, 3, 3},
		{-3, -5, 0, 0},
		{api.Never, 0, api.Never, api.Never},
		{api.Never, 1, api.Never, api.Never - 1},
		{1, api.Never, api.Never, 0},
		{api.Never - 1, 1, api.Never, api.Never - 2},
		{api.Never - 2, 1, api.Never - 1, api.Never - 3},
		{api.Never, api.Never, api.Never, 0},
		{api.Never + 9, 5, api.Never, api.Never - 5},
		{api.Never, api.Never + 9, api.Never, 0},
		{api.Never + 9, -5, api.Never, api.Never},
		{math.MaxInt, math.MaxInt, api.Never, 0},
		{math.MaxInt, math.MinInt, api.Never, api.Never},
		{math.MinInt, math.MaxInt, api.Never, 0},
		{math.MinInt, math.MinInt, 0, 0},
	} {
		if x := bits.Add(c.a, c.b); x != c.sum {
			t.Errorf("P1.3: Add(%d, %d) = %d", c.a, c.b, x)
		}
		if x := bits.Sub(c.a, c.b); x != c.less {
			t.Errorf("P1.3: Sub(%d, %d) = %d", c.a, c.b, x)
		}
	}
}

// clipBig is Clip over numbers without bounds.
func clipBig(n *big.Int) *big.Int {
	if n.Sign() < 0 {
		return big.NewInt(0)
	}
	if never := big.NewInt(api.Never); n.Cmp(never) > 0 {
		return never
	}
	return n
}

func TestSecondsWithoutBounds(t *testing.T) {
	for _, a := range edgeInts() {
		for _, b := range edgeInts() {
			x, y := clipBig(big.NewInt(int64(a))), clipBig(big.NewInt(int64(b)))
			sum, less := clipBig(new(big.Int).Add(x, y)), clipBig(new(big.Int).Sub(x, y))
			if n := bits.Add(a, b); int64(n) != sum.Int64() || n < 0 || n > api.Never {
				t.Errorf("P1.3, P1.6: Add(%d, %d) = %d", a, b, n)
			}
			if n := bits.Sub(a, b); int64(n) != less.Int64() || n < 0 || n > api.Never {
				t.Errorf("P1.3, P1.6: Sub(%d, %d) = %d", a, b, n)
			}
		}
	}
}

func TestHex(t *testing.T) {
	for _, c := range []struct {
		b    []byte
		want string
	}{{nil, ""}, {[]byte{}, ""}, {[]byte{0}, "00"}, {[]byte{0x0F, 0xF0}, "0ff0"}, {[]byte{0, 255, 0x1A}, "00ff1a"}, {[]byte("hello"), "68656c6c6f"}} {
		if s := bits.Hex(c.b); s != c.want {
			t.Errorf("P1.4: Hex(% x) = %q", c.b, s)
		}
	}
	r := rand.New(rand.NewSource(4))
	for n := range 300 {
		b := randomBytes(r, n)
		s := bits.Hex(b)
		if s != hex.EncodeToString(b) {
			t.Errorf("P1.4: Hex(% x) = %q", b, s)
		}
		if x, ok := bits.Unhex(s); !ok || !bytes.Equal(x, b) {
			t.Errorf("P1.4: Unhex(%q) = % x, %v", s, x, ok)
		}
	}
}

func TestUnhex(t *testing.T) {
	for s, want := range map[string][]byte{"": {}, "00": {0}, "ff": {255}, "09af": {9, 0xAF}, "a00a": {0xA0, 0x0A}} {
		if b, ok := bits.Unhex(s); !ok || !bytes.Equal(b, want) {
			t.Errorf("P1.4: Unhex(%q) = % x, %v", s, b, ok)
		}
	}
	for _, s := range []string{
		"0", "a", "g", "000", "00f", "0ff0a", "0F", "F0", "FF", "aA", "0g", "g0", "gg", "  ", " 00", "00 ", "0 0 ", "0x00", "-1", "+1",
		"00000g", "0g0000", "\x00\x00", "0\n", "é", "\xff\xff", "٠٠", strings.Repeat("0", 99),
	} {
		if b, ok := bits.Unhex(s); ok || b != nil {
			t.Errorf("P1.4: Unhex(%q) = % x, %v", s, b, ok)
		}
	}
}

func TestUnhexOfEveryPair(t *testing.T) {
	for high := range 256 {
		for low := range 256 {
			s := string([]byte{byte(high), byte(low)})
			h, l := strings.IndexByte("0123456789abcdef", byte(high)), strings.IndexByte("0123456789abcdef", byte(low))
			b, ok := bits.Unhex(s)
			switch {
			case h < 0 || l < 0:
				if ok || b != nil {
					t.Errorf("P1.4: Unhex(%q) = % x, %v", s, b, ok)
				}
			case !ok || len(b) != 1 || int(b[0]) != 16*h+l || bits.Hex(b) != s:
				t.Errorf("P1.4: Unhex(%q) = % x, %v", s, b, ok)
			}
		}
	}
}

func TestHandedInIsNotChanged(t *testing.T) {
	whole := []byte("abcdefghijklmnopqrstuvwxyz")
	before := bytes.Clone(whole)
	part := whole[4:12]
	bits.Crc(part)
	bits.Fnv(part)
	bits.Hex(part)
	for at := -1; at <= len(part)+1; at++ {
		for width := range 8 {
			bits.Get(part, at, width)
		}
	}
	if !bytes.Equal(whole, before) {
		t.Errorf("P1.5: %q", whole)
	}
}

func TestBehindTheLengthIsNotRead(t *testing.T) {
	whole := []byte{1, 2, 3, 4, 5, 6, 7, 8}
	part, alone := whole[:3], []byte{1, 2, 3}
	if n, e := bits.Get(part, 0, 4); n != 0 || e != api.ErrShort {
		t.Errorf("P1.5: Get: %d, %d", n, e)
	}
	if n, e := bits.Get(part, 4, 1); n != 0 || e != api.ErrRange {
		t.Errorf("P1.5: Get: %d, %d", n, e)
	}
	if bits.Crc(part) != bits.Crc(alone) || bits.Fnv(part) != bits.Fnv(alone) || bits.Hex(part) != "010203" {
		t.Error("P1.5: what lies behind was read")
	}
}

func TestHandedInIsNotKept(t *testing.T) {
	b := []byte{1, 2, 3, 4}
	s, crc, sum := bits.Hex(b), bits.Crc(b), bits.Fnv(b)
	n, _ := bits.Get(b, 0, 4)
	clear(b)
	if s != "01020304" || n != 0x01020304 {
		t.Errorf("P1.5: %q, %x", s, n)
	}
	again, _ := bits.Get(b, 0, 4)
	if again != 0 || bits.Hex(b) != "00000000" || bits.Crc(b) == crc || bits.Fnv(b) == sum {
		t.Error("P1.5: an earlier argument was kept")
	}
}

// spoil writes into all of b's memory, its spare room too.
func spoil(b []byte) {
	b = b[:cap(b)]
	for i := range b {
		b[i] = 0xEE
	}
}

// holdsApart spoils each of three answers of one call in turn: what is left must stay as it was, and a later answer too.
func holdsApart(t *testing.T, name string, call func() []byte, want []byte) {
	t.Helper()
	first, second := call(), call()
	spoil(first)
	if !bytes.Equal(second, want) {
		t.Errorf("P1.5: %s: % x, once another answer was written into", name, second)
	}
	third := call()
	if !bytes.Equal(third, want) {
		t.Errorf("P1.5: %s: % x, behind an answer that was written into", name, third)
	}
	spoil(second)
	if !bytes.Equal(third, want) {
		t.Errorf("P1.5: %s: % x, once an earlier answer was written into", name, third)
	}
}

func TestAnsweredIsNewMemory(t *testing.T) {
	for width := 1; width <= 6; width++ {
		for _, n := range []int{0, 1, 255} {
			want := make([]byte, width)
			want[width-1] = byte(n)
			put := func() []byte { b, _ := bits.Put(n, width); return b }
			holdsApart(t, "Put", put, want)
		}
	}
	for _, want := range [][]byte{{}, {0}, {1}, {1, 2, 3, 4, 5, 6, 7, 8}, bytes.Repeat([]byte{0xAB}, 100)} {
		s := hex.EncodeToString(want)
		unhex := func() []byte { b, _ := bits.Unhex(s); return b }
		holdsApart(t, "Unhex", unhex, want)
	}
}

func TestWhatIsPutIsGot(t *testing.T) {
	r := rand.New(rand.NewSource(5))
	for width := 1; width <= 6; width++ {
		greatest := 1<<(8*width) - 1
		numbers := []int{0, 1, greatest / 2, greatest/2 + 1, greatest - 1, greatest}
		for range 200 {
			numbers = append(numbers, r.Intn(greatest+1))
		}
		for _, n := range numbers {
			b, e := bits.Put(n, width)
			if e != api.OK || len(b) != width {
				t.Fatalf("P1.6: Put(%d, %d) = % x, %d", n, width, b, e)
			}
			at := r.Intn(4)
			around := append(append(randomBytes(r, at), b...), randomBytes(r, r.Intn(4))...)
			if x, e := bits.Get(around, at, width); x != n || e != api.OK {
				t.Errorf("P1.6: Get(% x, %d, %d) = %d, %d", around, at, width, x, e)
			}
		}
	}
}

func TestEveryArgumentEnds(t *testing.T) {
	b := []byte{1, 2, 3}
	for _, x := range edgeInts() {
		bits.Turn(1, x)
		bits.Clip(x)
		for _, y := range edgeInts() {
			if p, e := bits.Put(x, y); (e == api.OK) != (len(p) > 0) {
				t.Errorf("P1.1: Put(%d, %d) = % x, %d", x, y, p, e)
			}
			if n, e := bits.Get(b, x, y); e != api.OK && n != 0 {
				t.Errorf("P1.1: Get(%d, %d) = %d, %d", x, y, n, e)
			}
		}
	}
}
