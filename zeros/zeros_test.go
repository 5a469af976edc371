package zeros

import (
	"math"
	"slices"
	"testing"

	"instar/api"
)

const all = math.MaxUint32

// lists are lists of words: empty, all bits 0, all bits 1, one bit of either kind, patterns, and lists that look sealed themselves.
var lists = [][]uint32{
	nil,
	{},
	{0},
	{all},
	{1},
	{0x80000000},
	{0x7fffffff},
	{0xfffffffe},
	{0, 0},
	{0, 1},
	{all, all},
	{0, all, 5},
	{0x55555555, 0xaaaaaaaa},
	{0x12345678, 0xdeadbeef, 32},
	{32, 31, 63, 64},
	{all, 0, all, 0, all, 0},
}

// zeroBits counts the bits that are 0, one by one, from the definition.
func zeroBits(l []uint32) uint32 {
	n := uint32(0)
	for _, x := range l {
		for i := range 32 {
			n += 1 - x>>i&1
		}
	}
	return n
}

// clearBits lists the positions of the bits of a list that are 0.
func clearBits(l []uint32) []int {
	var at []int
	for i := range 32 * len(l) {
		if l[i/32]>>(i%32)&1 == 0 {
			at = append(at, i)
		}
	}
	return at
}

// raised is a list with these bits set.
func raised(l []uint32, at ...int) []uint32 {
	r := slices.Clone(l)
	for _, i := range at {
		r[i/32] |= 1 << (i % 32)
	}
	return r
}

// P2.1
func TestSum(t *testing.T) {
	for _, x := range []struct {
		l    []uint32
		want uint32
	}{
		{nil, 0}, {[]uint32{}, 0},
		{[]uint32{0}, 32}, {[]uint32{all}, 0}, {[]uint32{1}, 31}, {[]uint32{0x80000000}, 31}, {[]uint32{0xf0f}, 24},
		{[]uint32{0, 1}, 63}, {[]uint32{0, all, 5}, 62}, {[]uint32{all, all, all}, 0},
		{make([]uint32, 1024), 32768}, {make([]uint32, 70000), 2240000},
		{[]uint32{4294836225, 2147483649, 5}, 76},
	} {
		if got := Sum(x.l...); got != x.want {
			t.Errorf("Sum of %d words = %d, want %d", len(x.l), got, x.want)
		}
	}
	if got := Sum(); got != 0 {
		t.Errorf("Sum of nothing = %d", got)
	}
	if got := Sum(0, 1); got != 63 {
		t.Errorf("Sum(0, 1) = %d", got)
	}
	for _, l := range lists {
		if got, want := Sum(l...), zeroBits(l); got != want {
			t.Errorf("Sum(%#x) = %d, want %d", l, got, want)
		}
	}
}

// P2.1: every single bit counts, in each place of the list.
func TestSumEachBit(t *testing.T) {
	for i := range 96 {
		if got := Sum(raised(make([]uint32, 3), i)...); got != 95 {
			t.Errorf("bit %d alone is 1: sum %d, want 95", i, got)
		}
		l := []uint32{all, all, all}
		l[i/32] ^= 1 << (i % 32)
		if got := Sum(l...); got != 1 {
			t.Errorf("bit %d alone is 0: sum %d, want 1", i, got)
		}
	}
}

// P2.1
func TestSeal(t *testing.T) {
	for _, x := range []struct{ l, want []uint32 }{
		{nil, []uint32{0}},
		{[]uint32{}, []uint32{0}},
		{[]uint32{0}, []uint32{0, 32}},
		{[]uint32{all}, []uint32{all, 0}},
		{[]uint32{0, 1}, []uint32{0, 1, 63}},
		{[]uint32{0, all, 5}, []uint32{0, all, 5, 62}},
	} {
		if got := Seal(x.l); !slices.Equal(got, x.want) {
			t.Errorf("Seal(%#x) = %#x, want %#x", x.l, got, x.want)
		}
	}
	for _, l := range lists {
		if got, want := Seal(l), append(slices.Clone(l), zeroBits(l)); !slices.Equal(got, want) {
			t.Errorf("Seal(%#x) = %#x, want %#x", l, got, want)
		}
	}
}

// P2.1: a list without words is not right, and a single word is if it is the sum of no words.
func TestRight(t *testing.T) {
	for _, x := range []struct {
		l    []uint32
		want bool
	}{
		{nil, false}, {[]uint32{}, false},
		{[]uint32{0}, true}, {[]uint32{1}, false}, {[]uint32{32}, false}, {[]uint32{all}, false},
		{[]uint32{0, 32}, true}, {[]uint32{0, 31}, false}, {[]uint32{0, 33}, false}, {[]uint32{0, 0}, false},
		{[]uint32{32, 0}, false}, {[]uint32{all, 0}, true}, {[]uint32{all, all}, false},
		{[]uint32{0, 1, 63}, true}, {[]uint32{63, 0, 1}, false}, {[]uint32{0, 1, 63, 63}, false},
		{[]uint32{0, all, 5, 62}, true}, {[]uint32{1, all, 5, 62}, false},
		{[]uint32{0, 1, 63 + 1<<31}, false}, {[]uint32{0, 1, 63 + 1<<16}, false},
	} {
		if got := Right(x.l); got != x.want {
			t.Errorf("Right(%#x) = %t", x.l, got)
		}
	}
}

// P2.1: of all last words near the sum only the sum is right.
func TestRightOnlyWithSum(t *testing.T) {
	for _, l := range lists {
		want := zeroBits(l)
		for last := range uint32(300) {
			if got := Right(append(slices.Clone(l), last)); got != (last == want) {
				t.Errorf("Right(%#x, %d) = %t", l, last, got)
			}
		}
	}
}

// P2.1, P2.3: 2^32 zero bits are more than a word can tell, so no last word is their sum, and least of all their lower 32 bits.
func TestRightBeyondWord(t *testing.T) {
	l := make([]uint32, 1<<27+1)
	if Right(l) {
		t.Error("2^32 zero bits are taken for none")
	}
	l[0], l[len(l)-1] = 1, all
	if !Right(l) {
		t.Error("2^32 - 1 zero bits are not taken for their sum")
	}
}

// P2.2
func TestTwin(t *testing.T) {
	for _, x := range []struct {
		n    int
		want uint32
	}{
		{0, 0xffff0000}, {1, 4294836225}, {2, 0xfffd0002}, {255, 0xff0000ff}, {256, 0xfeff0100},
		{0x1234, 0xedcb1234}, {32767, 0x80007fff}, {32768, 0x7fff8000}, {65534, 0x0001fffe}, {65535, 65535},
	} {
		if got, e := Twin(x.n); got != x.want || e != api.OK {
			t.Errorf("Twin(%d) = %#x, %d, want %#x", x.n, got, e, x.want)
		}
	}
}

// P2.2
func TestTwinErrors(t *testing.T) {
	for _, n := range []int{-1, -2, -65535, -65536, 65536, 65537, 131071, math.MaxInt32, math.MinInt32, math.MaxInt, math.MinInt} {
		if got, e := Twin(n); got != 0 || e != api.ErrArg {
			t.Errorf("Twin(%d) = %#x, %d, want ErrArg", n, got, e)
		}
	}
}

// P2.2: bit by bit, for every number that has a twin.
func TestTwinEachNumber(t *testing.T) {
	for n := range 65536 {
		x, e := Twin(n)
		if e != api.OK {
			t.Fatalf("Twin(%d): error %d", n, e)
		}
		for i := range 16 {
			if low := uint32(n) >> i & 1; x>>i&1 != low || x>>(16+i)&1 == low {
				t.Fatalf("Twin(%d) = %#x: bit %d", n, x, i)
			}
		}
		if got, ok := Told(x); got != n || !ok {
			t.Fatalf("Told(%#x) = %d, %t, want %d", x, got, ok, n)
		}
	}
}

// P2.2
func TestTold(t *testing.T) {
	for _, x := range []struct {
		x    uint32
		want int
		ok   bool
	}{
		{0xffff0000, 0, true}, {65535, 65535, true}, {4294836225, 1, true}, {0xedcb1234, 0x1234, true},
		{0, 0, false}, {all, 0, false}, {1, 0, false}, {0x00010001, 0, false}, {0xffff0001, 0, false},
		{0xfffe0000, 0, false}, {0x12341234, 0, false}, {0x1234edcc, 0, false}, {0x80000000, 0, false},
	} {
		if got, ok := Told(x.x); got != x.want || ok != x.ok {
			t.Errorf("Told(%#x) = %d, %t, want %d, %t", x.x, got, ok, x.want, x.ok)
		}
	}
}

// P2.2: below a given upper half a single lower half makes a twin.
func TestToldOnlyTwins(t *testing.T) {
	for _, high := range []uint32{0, 1, 0x1234, 0x7fff, 0x8000, 0xfffe, 0xffff} {
		for low := range uint32(65536) {
			n, ok := Told(high<<16 | low)
			if ok != (high+low == 65535) || ok && n != int(low) || !ok && n != 0 {
				t.Fatalf("Told(%#x) = %d, %t", high<<16|low, n, ok)
			}
		}
	}
}

// P2.3
func TestRightOfSealed(t *testing.T) {
	for _, l := range lists {
		if s := Seal(l); !Right(s) {
			t.Errorf("Right(%#x) is false", s)
		}
		if s := Seal(Seal(l)); !Right(s) {
			t.Errorf("Right(%#x) is false", s)
		}
	}
}

// P2.3: every one and every two of the bits, so that a raised bit of a word meets each raised bit of the sum.
func TestDetectionOfFewBits(t *testing.T) {
	for _, l := range lists {
		s := Seal(l)
		at := clearBits(s)
		for i, a := range at {
			for _, b := range at[i:] { // a is its own first partner: then it is raised alone
				if r := raised(s, a, b); Right(r) {
					t.Fatalf("Right(%#x), which was %#x", r, s)
				}
			}
		}
	}
}

// P2.3: every choice of the zero bits of short lists, against every choice of the lower bits of their sum.
func TestDetectionOfAllBits(t *testing.T) {
	for _, l := range [][]uint32{nil, {all}, {all ^ 1}, {all ^ 0x80000101}, {all ^ 0x81, all, all ^ 0x40000002}, {all ^ 0xff}} {
		s := Seal(l)
		at := clearBits(s)
		n := int(zeroBits(l)) + 6
		for pick := 1; pick < 1<<n; pick++ {
			r := slices.Clone(s)
			for i, a := range at[:n] {
				r[a/32] |= uint32(pick>>i&1) << (a % 32)
			}
			if Right(r) {
				t.Fatalf("Right(%#x), which was %#x", r, s)
			}
		}
	}
}

// P2.3: many bits, in a fixed sequence of masks.
func TestDetectionOfManyBits(t *testing.T) {
	x := uint32(1)
	next := func() uint32 {
		x = x*1664525 + 1013904223
		return x ^ x>>15
	}
	for range 2000 {
		for _, l := range lists {
			s := Seal(l)
			r := slices.Clone(s)
			for i := range r {
				r[i] |= next() & next()
			}
			if Right(r) != slices.Equal(r, s) {
				t.Fatalf("Right(%#x), which was %#x", r, s)
			}
		}
	}
}

// P2.3: a flash that was erased whole is not right.
func TestDetectionOfErased(t *testing.T) {
	for n := range 80 {
		if Right(slices.Repeat([]uint32{all}, n)) {
			t.Errorf("%d words of bits that are all 1 are right", n)
		}
	}
}

// P2.3: every single bit, for every twin.
func TestTwinDetectionOfOneBit(t *testing.T) {
	for n := range 65536 {
		x, _ := Twin(n)
		for _, i := range clearBits([]uint32{x}) {
			if got, ok := Told(x | 1<<i); got != 0 || ok {
				t.Fatalf("Told(%#x) = %d, %t, which was %#x", x|1<<i, got, ok, x)
			}
		}
	}
}

// P2.3: every choice of the bits that are 0, for some twins.
func TestTwinDetectionOfAllBits(t *testing.T) {
	for _, n := range []int{0, 1, 2, 255, 256, 0x1234, 0x5555, 0xaaaa, 32767, 32768, 65534, 65535} {
		x, _ := Twin(n)
		for mask := ^x; mask != 0; mask = (mask - 1) & ^x {
			if got, ok := Told(x | mask); got != 0 || ok {
				t.Fatalf("Told(%#x) = %d, %t, which was %#x", x|mask, got, ok, x)
			}
		}
	}
}

// R3: arguments are neither modified, in their spare capacity either, nor retained.
func TestArgumentsAreLeftAlone(t *testing.T) {
	l := []uint32{0, 1, 63, 7, 8}
	s := Seal(l[:2])
	Sum(l[:2]...)
	Right(l[:3])
	if !slices.Equal(l, []uint32{0, 1, 63, 7, 8}) {
		t.Errorf("an argument was changed: %v", l)
	}
	l[0] = 9
	if !slices.Equal(s, []uint32{0, 1, 63}) {
		t.Errorf("Seal kept its argument: %v", s)
	}
	s[1] = 9
	if l[1] != 1 {
		t.Errorf("Seal shares its argument: %v", l)
	}
}
