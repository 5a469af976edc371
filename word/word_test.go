package word

import (
	"bytes"
	"math"
	"slices"
	"testing"

	"instar/api"
)

// samples are words with bits at both ends, in patterns, and in no order at all.
var samples = []uint32{0, 1, 2, 7, 0x80, 0xff, 0xf0f, 0x10000, 0x55555555, 0xaaaaaaaa, 0x0f0f0f0f, 0x12345678, 0x7fffffff, 0x80000000, 0xdeadbeef, 0xfffffffe, 0xffffffff}

// bit is bit i of a word.
func bit(x uint32, i int) bool { return x>>i&1 == 1 }

// run is n bytes that differ from their neighbors and are never 0.
func run(n int) []byte {
	b := make([]byte, n)
	for i := range b {
		b[i] = byte(i*37%255 + 1)
	}
	return b
}

// P1.1
func TestNeed(t *testing.T) {
	for _, x := range []struct{ n, want int }{
		{math.MinInt, 0}, {-4, 0}, {-1, 0}, {0, 0},
		{1, 1}, {2, 1}, {3, 1}, {4, 1}, {5, 2}, {8, 2}, {9, 3}, {131072, 32768},
		{math.MaxInt - 3, math.MaxInt / 4}, {math.MaxInt, math.MaxInt/4 + 1},
	} {
		if got := Need(x.n); got != x.want {
			t.Errorf("Need(%d) = %d, want %d", x.n, got, x.want)
		}
	}
}

// P1.2
func TestPack(t *testing.T) {
	for _, x := range []struct {
		b    []byte
		want []uint32
	}{
		{nil, nil},
		{[]byte{}, nil},
		{[]byte{1}, []uint32{0x01000000}},
		{[]byte{1, 2}, []uint32{0x01020000}},
		{[]byte{1, 2, 3}, []uint32{0x01020300}},
		{[]byte{0xff, 0xfe, 0xfd, 0xfc}, []uint32{0xfffefdfc}},
		{[]byte{1, 2, 3, 4, 5}, []uint32{16909060, 83886080}},
		{[]byte{0, 0, 0, 0, 0, 0, 0, 0}, []uint32{0, 0}},
		{[]byte{0, 0, 0, 1, 0x80, 0, 0, 0, 9}, []uint32{1, 0x80000000, 0x09000000}},
	} {
		if got := Pack(x.b); !slices.Equal(got, x.want) {
			t.Errorf("Pack(%v) = %v, want %v", x.b, got, x.want)
		}
	}
}

// P1.2
func TestBytes(t *testing.T) {
	for _, x := range []struct {
		w    []uint32
		n    int
		want []byte
	}{
		{nil, 0, nil},
		{[]uint32{}, 0, nil},
		{[]uint32{0x01000000}, 1, []byte{1}},
		{[]uint32{0x01020000}, 2, []byte{1, 2}},
		{[]uint32{0x01020300}, 3, []byte{1, 2, 3}},
		{[]uint32{0x01020304}, 4, []byte{1, 2, 3, 4}},
		{[]uint32{16909060, 83886080}, 5, []byte{1, 2, 3, 4, 5}},
		{[]uint32{0, 0}, 5, []byte{0, 0, 0, 0, 0}},
		{[]uint32{0, 0}, 8, []byte{0, 0, 0, 0, 0, 0, 0, 0}},
	} {
		got, e := Bytes(x.w, x.n)
		if e != api.OK || !bytes.Equal(got, x.want) {
			t.Errorf("Bytes(%v, %d) = %v, %d, want %v", x.w, x.n, got, e, x.want)
		}
	}
}

// P1.2: and of several errors the first one that the chapter names.
func TestBytesErrors(t *testing.T) {
	for _, x := range []struct {
		w    []uint32
		n    int
		want api.Errno
	}{
		{nil, -1, api.ErrArg},
		{nil, math.MinInt, api.ErrArg},
		{[]uint32{0}, -1, api.ErrArg},
		{[]uint32{1, 2, 3}, -4, api.ErrArg},
		{nil, 1, api.ErrShort},
		{[]uint32{0}, 5, api.ErrShort},
		{[]uint32{1, 2}, 9, api.ErrShort},
		{[]uint32{1, 2}, math.MaxInt, api.ErrShort},
		{[]uint32{0}, 0, api.ErrRest},
		{[]uint32{1}, 0, api.ErrRest},
		{[]uint32{0, 0}, 4, api.ErrRest},
		{[]uint32{0, 0, 0}, 5, api.ErrRest},
		{[]uint32{0x01000001}, 1, api.ErrRest},
		{[]uint32{0x01000100}, 1, api.ErrRest},
		{[]uint32{0x01010000}, 1, api.ErrRest},
		{[]uint32{0x01020100}, 2, api.ErrRest},
		{[]uint32{0x01020001}, 2, api.ErrRest},
		{[]uint32{0x01020301}, 3, api.ErrRest},
		{[]uint32{0x01020304, 0x05800000}, 5, api.ErrRest},
	} {
		got, e := Bytes(x.w, x.n)
		if e != x.want || len(got) != 0 {
			t.Errorf("Bytes(%v, %d) = %v, %d, want error %d", x.w, x.n, got, e, x.want)
		}
	}
}

// P1.2: every single bit of the unused bytes is seen, and no bit of the used ones is taken for unused.
func TestBytesEachBit(t *testing.T) {
	for n := range 9 {
		w := make([]uint32, Need(n))
		for i := range len(w) * 32 {
			w[i/32] = 1 << (31 - i%32)
			want := api.OK
			if i >= 8*n {
				want = api.ErrRest
			}
			if _, e := Bytes(w, n); e != want {
				t.Errorf("n %d, bit %d: error %d, want %d", n, i, e, want)
			}
			w[i/32] = 0
		}
	}
}

// P1.3
func TestOnes(t *testing.T) {
	for _, x := range []struct {
		x    uint32
		want int
	}{{0, 0}, {1, 1}, {0x80000000, 1}, {0xf0f, 8}, {0x55555555, 16}, {0xfffffffe, 31}, {0xffffffff, 32}} {
		if got := Ones(x.x); got != x.want {
			t.Errorf("Ones(%#x) = %d, want %d", x.x, got, x.want)
		}
	}
	for _, x := range samples {
		want := 0
		for i := range 32 {
			if bit(x, i) {
				want++
			}
		}
		if got := Ones(x); got != want {
			t.Errorf("Ones(%#x) = %d, want %d", x, got, want)
		}
	}
}

// P1.3
func TestWithin(t *testing.T) {
	for _, x := range []struct {
		a, b uint32
		want bool
	}{
		{0, 0, true}, {5, 7, true}, {7, 5, false}, {7, 7, true}, {8, 7, false},
		{0x80000000, 0x7fffffff, false}, {0x80000000, 0x80000001, true}, {1, 0xfffffffe, false},
	} {
		if got := Within(x.a, x.b); got != x.want {
			t.Errorf("Within(%#x, %#x) = %t", x.a, x.b, got)
		}
	}
	for _, a := range samples {
		for _, b := range samples {
			want := true
			for i := range 32 {
				want = want && (!bit(a, i) || bit(b, i))
			}
			if got := Within(a, b); got != want {
				t.Errorf("Within(%#x, %#x) = %t", a, b, got)
			}
		}
	}
}

// P1.4: bit by bit, from the definition.
func TestTorn(t *testing.T) {
	for _, x := range []struct{ was, x, mask, want uint32 }{
		{7, 1, 2, 5},
		{0xff, 0x0f, 0x30, 0xcf},
		{0xffffffff, 0, 0x80000001, 0x7ffffffe},
		{0, 0xffffffff, 0xffffffff, 0}, // programming never sets a bit
		{0xf0, 0xff, 0xff, 0xf0},
	} {
		if got := Torn(x.was, x.x, x.mask); got != x.want {
			t.Errorf("Torn(%#x, %#x, %#x) = %#x, want %#x", x.was, x.x, x.mask, got, x.want)
		}
	}
	eachThree(func(was, x, mask uint32) {
		got := Torn(was, x, mask)
		for i := range 32 {
			want := bit(was, i) && (bit(x, i) || !bit(mask, i))
			if bit(got, i) != want {
				t.Fatalf("Torn(%#x, %#x, %#x) = %#x: bit %d", was, x, mask, got, i)
			}
		}
	})
}

// P1.4
func TestRaised(t *testing.T) {
	for _, x := range []struct{ was, mask, want uint32 }{
		{0, 0, 0}, {1, 6, 7}, {7, 2, 7}, {0, 0xffffffff, 0xffffffff}, {0x80000000, 1, 0x80000001}, {0xf0, 0, 0xf0},
	} {
		if got := Raised(x.was, x.mask); got != x.want {
			t.Errorf("Raised(%#x, %#x) = %#x, want %#x", x.was, x.mask, got, x.want)
		}
	}
	for _, was := range samples {
		for _, mask := range samples {
			got := Raised(was, mask)
			for i := range 32 {
				if bit(got, i) != (bit(was, i) || bit(mask, i)) {
					t.Fatalf("Raised(%#x, %#x) = %#x: bit %d", was, mask, got, i)
				}
			}
		}
	}
}

// P1.5
func TestRoundTrip(t *testing.T) {
	for n := range 70 {
		for _, b := range [][]byte{run(n), make([]byte, n), bytes.Repeat([]byte{0xff}, n)} {
			w := Pack(b)
			if len(w) != Need(n) {
				t.Errorf("Pack of %d bytes has %d words", n, len(w))
			}
			if got, e := Bytes(w, n); e != api.OK || !bytes.Equal(got, b) {
				t.Errorf("Bytes(Pack(%v)) = %v, %d", b, got, e)
			}
		}
	}
}

// P1.5
func TestTornBounds(t *testing.T) {
	eachThree(func(was, x, mask uint32) {
		got := Torn(was, x, mask)
		if !Within(got, was) || !Within(was&x, got) {
			t.Errorf("Torn(%#x, %#x, %#x) = %#x is out of bounds", was, x, mask, got)
		}
	})
	for _, was := range samples {
		for _, x := range samples {
			if got := Torn(was, x, 0xffffffff); got != was&x {
				t.Errorf("Torn(%#x, %#x, all) = %#x", was, x, got)
			}
			if got := Torn(was, x, 0); got != was {
				t.Errorf("Torn(%#x, %#x, 0) = %#x", was, x, got)
			}
			if !Within(was, Raised(was, x)) {
				t.Errorf("%#x is not within Raised(%#x, %#x)", was, was, x)
			}
		}
	}
}

// R3: arguments are neither modified, in their spare capacity either, nor retained.
func TestArgumentsAreLeftAlone(t *testing.T) {
	b := run(9)
	w := Pack(b[:5])
	if !bytes.Equal(b, run(9)) {
		t.Errorf("Pack changed its argument: %v", b)
	}
	clear(b)
	if !slices.Equal(w, Pack(run(5))) {
		t.Errorf("Pack kept its argument: %v", w)
	}
	spare := []uint32{0x01020304, 0x05000000, 0xffffffff}
	got, e := Bytes(spare[:2], 5)
	if e != api.OK || !slices.Equal(spare, []uint32{0x01020304, 0x05000000, 0xffffffff}) {
		t.Errorf("Bytes changed its argument: %v, %d", spare, e)
	}
	spare[0] = 0
	if !bytes.Equal(got, []byte{1, 2, 3, 4, 5}) {
		t.Errorf("Bytes kept its argument: %v", got)
	}
}

// eachThree visits all triples of samples.
func eachThree(f func(a, b, c uint32)) {
	for _, a := range samples {
		for _, b := range samples {
			for _, c := range samples {
				f(a, b, c)
			}
		}
	}
}
