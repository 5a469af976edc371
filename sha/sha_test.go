package sha

import (
	"bytes"
	"crypto/sha256"
	"encoding"
	"encoding/binary"
	"hash"
	"math/big"
	"slices"
	"strings"
	"testing"
)

// message is n bytes of a fixed sequence.
func message(n int) []byte {
	b := make([]byte, n)
	x := uint32(n)
	for i := range b {
		x = x*1664525 + 1013904223
		b[i] = byte(x >> 24)
	}
	return b
}

// known is the digest by the standard library.
func known(b []byte) [8]uint32 {
	var d [8]uint32
	sum := sha256.Sum256(b)
	for i := range d {
		d[i] = binary.BigEndian.Uint32(sum[4*i:])
	}
	return d
}

// published are messages with their digests, as FIPS 180-4's examples and others tell them.
var published = []struct {
	message string
	want    [8]uint32
}{
	{"", [8]uint32{0xe3b0c442, 0x98fc1c14, 0x9afbf4c8, 0x996fb924, 0x27ae41e4, 0x649b934c, 0xa495991b, 0x7852b855}},
	{"abc", [8]uint32{0xba7816bf, 0x8f01cfea, 0x414140de, 0x5dae2223, 0xb00361a3, 0x96177a9c, 0xb410ff61, 0xf20015ad}},
	{
		"abcdbcdecdefdefgefghfghighijhijkijkljklmklmnlmnomnopnopq",
		[8]uint32{0x248d6a61, 0xd20638b8, 0xe5c02693, 0x0c3e6039, 0xa33ce459, 0x64ff2167, 0xf6ecedd4, 0x19db06c1},
	},
	{
		"abcdefghbcdefghicdefghijdefghijkefghijklfghijklmghijklmnhijklmnoijklmnopjklmnopqklmnopqrlmnopqrsmnopqrstnopqrstu",
		[8]uint32{0xcf5b16a7, 0x78af8380, 0x036ce59e, 0x7b049237, 0x0b249b11, 0xe8f07a51, 0xafac4503, 0x7afee9d1},
	},
	{
		strings.Repeat("a", 1000000),
		[8]uint32{0xcdc76e5c, 0x9914fb92, 0x81a1c7e2, 0x84d73e67, 0xf1809a48, 0xa497200e, 0x046d39cc, 0xc7112cd0},
	},
}

// P3.2
func TestOfPublished(t *testing.T) {
	for _, x := range published {
		if got := Of([]byte(x.message)); got != x.want {
			t.Errorf("Of of %d bytes = %#x, want %#x", len(x.message), got, x.want)
		}
	}
	if Of(nil) != Of([]byte{}) {
		t.Error("nil and an empty slice have different digests")
	}
	if d := Of([]byte("abc")); d[0] != 3128432319 || d[7] != 4060091821 {
		t.Errorf("Of(abc) = %d", d)
	}
}

// P3.2: every length up to some blocks, so that the padding begins at each place of a block, and some longer ones.
func TestOfEachLength(t *testing.T) {
	lengths := []int{1023, 1024, 4095, 4096, 65535, 65536, 131071, 131072}
	for n := range 400 {
		lengths = append(lengths, n)
	}
	for _, n := range lengths {
		for _, b := range [][]byte{message(n), make([]byte, n), bytes.Repeat([]byte{255}, n), bytes.Repeat([]byte{128}, n)} {
			if got, want := Of(b), known(b); got != want {
				t.Errorf("Of of %d bytes = %#x, want %#x", n, got, want)
			}
		}
	}
}

// P3.2: every bit of a message counts, and every value of a byte.
func TestOfEachBit(t *testing.T) {
	b := message(130)
	for i := range 8 * len(b) {
		b[i/8] ^= 1 << (i % 8)
		if got, want := Of(b), known(b); got != want {
			t.Errorf("bit %d changed: %#x, want %#x", i, got, want)
		}
		b[i/8] ^= 1 << (i % 8)
	}
	for x := range 256 {
		if one := []byte{byte(x)}; Of(one) != known(one) {
			t.Errorf("Of(%d) = %#x, want %#x", x, Of(one), known(one))
		}
	}
}

// resumed is a hash, and one of the standard library, of a message of n bytes whose first blocks led to the state of another one.
func resumed(t *testing.T, n int) (*Hash, hash.Hash) {
	b := message(n % 64)
	h := New()
	h.Write(message(64))
	h.Write(b)
	h.count = n
	told := []byte("sha\x03")
	for _, x := range h.state {
		told = binary.BigEndian.AppendUint32(told, x)
	}
	told = append(told, b...)
	told = append(told, make([]byte, 64-len(b))...)
	told = binary.BigEndian.AppendUint64(told, uint64(n))
	want := sha256.New()
	if e := want.(encoding.BinaryUnmarshaler).UnmarshalBinary(told); e != nil {
		t.Fatal(e)
	}
	return h, want
}

// P3.1: long messages, whose length in bits passes 32 bits; to write them whole would take seconds.
func TestLongMessage(t *testing.T) {
	for _, n := range []int{1 << 13, 1<<21 - 1, 1 << 21, 1<<28 + 9, 1<<29 - 100, 1<<29 - 1, 1 << 29, 1<<29 + 55, 1<<30 + 56, 1<<31 - 101} {
		h, want := resumed(t, n)
		for _, b := range [][]byte{nil, message(1), message(99)} {
			h.Write(b)
			want.Write(b)
			n += len(b)
			if got := Bytes(h.Sum()); !bytes.Equal(got, want.Sum(nil)) || h.Count() != n {
				t.Errorf("%d bytes: %x and Count %d, want %x", n, got, h.Count(), want.Sum(nil))
			}
		}
	}
}

// P3.1: a new hash is of the empty message.
func TestNew(t *testing.T) {
	h := New()
	if got := h.Sum(); got != known(nil) {
		t.Errorf("Sum = %#x, want %#x", got, known(nil))
	}
	if got := h.Count(); got != 0 {
		t.Errorf("Count = %d", got)
	}
}

// P3.1: each call of New makes a hash of its own.
func TestHashesAreApart(t *testing.T) {
	a, b := New(), New()
	a.Write([]byte("abc"))
	b.Write(message(100))
	a.Write(message(64))
	if got, want := a.Sum(), known(append([]byte("abc"), message(64)...)); got != want || a.Count() != 67 {
		t.Errorf("first hash: %#x of %d bytes, want %#x", got, a.Count(), want)
	}
	if got, want := b.Sum(), known(message(100)); got != want || b.Count() != 100 {
		t.Errorf("second hash: %#x of %d bytes, want %#x", got, b.Count(), want)
	}
	if c := New(); c.Sum() != known(nil) || c.Count() != 0 {
		t.Error("a new hash is not empty after the use of others")
	}
}

// P3.1: Sum and Count tell of what was written so far, any number of times, and more can be written.
func TestSumGoesOn(t *testing.T) {
	b := message(300)
	h := New()
	for n := range len(b) {
		for range 2 {
			if got, want := h.Sum(), known(b[:n]); got != want {
				t.Fatalf("after %d bytes: %#x, want %#x", n, got, want)
			}
			if got := h.Count(); got != n {
				t.Fatalf("after %d bytes: Count %d", n, got)
			}
		}
		h.Write(b[n : n+1])
	}
}

// P3.1: to write nothing changes nothing.
func TestWriteOfNothing(t *testing.T) {
	for _, n := range []int{0, 1, 55, 56, 63, 64, 65, 128} {
		h := New()
		h.Write(nil)
		h.Write(message(n))
		h.Write(nil)
		h.Write([]byte{})
		if got, want := h.Sum(), known(message(n)); got != want || h.Count() != n {
			t.Errorf("%d bytes: %#x and Count %d, want %#x", n, got, h.Count(), want)
		}
	}
}

// P3.1: a nil hash.
func TestNilHash(t *testing.T) {
	var h *Hash
	for _, b := range [][]byte{nil, {}, {1}, message(64), message(1000)} {
		h.Write(b)
		if h != nil || h.Sum() != [8]uint32{} || h.Count() != 0 {
			t.Errorf("after %d bytes: Sum %#x, Count %d", len(b), h.Sum(), h.Count())
		}
	}
}

// P3.2
func TestBytes(t *testing.T) {
	for _, x := range []struct {
		d    [8]uint32
		want []byte
	}{
		{[8]uint32{}, make([]byte, 32)},
		{
			[8]uint32{0x00010203, 0x04050607, 0x08090a0b, 0x0c0d0e0f, 0x10111213, 0x14151617, 0x18191a1b, 0x1c1d1e1f},
			[]byte{0, 1, 2, 3, 4, 5, 6, 7, 8, 9, 10, 11, 12, 13, 14, 15, 16, 17, 18, 19, 20, 21, 22, 23, 24, 25, 26, 27, 28, 29, 30, 31},
		},
		{[8]uint32{0x80000000}, append([]byte{128}, make([]byte, 31)...)},
		{[8]uint32{7: 1}, append(make([]byte, 31), 1)},
		{
			[8]uint32{1<<32 - 1, 1<<32 - 1, 1<<32 - 1, 1<<32 - 1, 1<<32 - 1, 1<<32 - 1, 1<<32 - 1, 1<<32 - 1},
			bytes.Repeat([]byte{255}, 32),
		},
	} {
		if got := Bytes(x.d); !bytes.Equal(got, x.want) {
			t.Errorf("Bytes(%#x) = %d, want %d", x.d, got, x.want)
		}
	}
	for _, x := range published {
		want := sha256.Sum256([]byte(x.message))
		if got := Bytes(Of([]byte(x.message))); !bytes.Equal(got, want[:]) {
			t.Errorf("Bytes of the digest of %d bytes = %x, want %x", len(x.message), got, want)
		}
	}
}

// P3.3: every division into two parts, with and without a Sum between them.
func TestTwoParts(t *testing.T) {
	for _, n := range []int{0, 1, 2, 55, 56, 57, 63, 64, 65, 119, 120, 127, 128, 129, 200} {
		b := message(n)
		want := known(b)
		for i := range n + 1 {
			for _, between := range []bool{false, true} {
				h := New()
				h.Write(b[:i])
				if between {
					h.Sum()
				}
				h.Write(b[i:])
				if got := h.Sum(); got != want || h.Count() != n {
					t.Fatalf("%d and %d bytes: %#x of %d bytes, want %#x", i, n-i, got, h.Count(), want)
				}
			}
		}
	}
}

// P3.3: every division into three parts.
func TestThreeParts(t *testing.T) {
	b := message(140)
	want := Of(b)
	for i := range len(b) + 1 {
		for j := i; j <= len(b); j++ {
			h := New()
			h.Write(b[:i])
			h.Write(b[i:j])
			h.Write(b[j:])
			if got := h.Sum(); got != want {
				t.Fatalf("divided at %d and %d: %#x, want %#x", i, j, got, want)
			}
		}
	}
}

// P3.3: parts of one size each.
func TestManyParts(t *testing.T) {
	b := message(1000)
	want := Of(b)
	for size := 1; size <= 260; size++ {
		h := New()
		for part := range slices.Chunk(b, size) {
			h.Write(part)
		}
		if got := h.Sum(); got != want || h.Count() != len(b) {
			t.Errorf("parts of %d bytes: %#x of %d bytes, want %#x", size, got, h.Count(), want)
		}
	}
}

// rootBits is the first 32 bits of the fractional part of a root of n.
func rootBits(n int64, degree int64) uint32 {
	// The root of n shifted by 32 bits for each factor is an integer, whose last 32 bits are those behind the point.
	want := new(big.Int).Lsh(big.NewInt(n), uint(32*degree))
	root := new(big.Int)
	for bit := 40; bit >= 0; bit-- {
		next := new(big.Int).SetBit(root, bit, 1)
		if new(big.Int).Exp(next, big.NewInt(degree), nil).Cmp(want) <= 0 {
			root = next
		}
	}
	return uint32(root.Uint64())
}

// The definitions of P3.1: each constant, as the chapter defines it.
func TestConstants(t *testing.T) {
	p := int64(2)
	for i := range 64 {
		if got, want := rounds[i], rootBits(p, 3); got != want {
			t.Errorf("constant of round %d is %#x, want %#x", i, got, want)
		}
		if i < 8 && New().state[i] != rootBits(p, 2) {
			t.Errorf("word %d of the first state is %#x, want %#x", i, New().state[i], rootBits(p, 2))
		}
		for p++; !big.NewInt(p).ProbablyPrime(0); p++ {
		}
	}
}

// R3: arguments are neither modified, in their spare capacity either, nor retained.
func TestArgumentsAreLeftAlone(t *testing.T) {
	for _, n := range []int{0, 1, 55, 56, 63, 64, 65, 127, 128, 200} {
		b := message(300)
		h := New()
		h.Write(b[:n])
		d := Of(b[:n])
		if !bytes.Equal(b, message(300)) {
			t.Errorf("an argument of %d bytes was changed: %d", n, b)
		}
		want := known(b[:n])
		clear(b)
		if h.Sum() != want || d != want {
			t.Errorf("an argument of %d bytes was kept", n)
		}
	}
}

// R3: the bytes of a digest are new memory.
func TestResultsAreNew(t *testing.T) {
	h := New()
	d := h.Sum()
	b := Bytes(d)
	clear(b)
	if h.Sum() != known(nil) || d != known(nil) || !bytes.Equal(b, make([]byte, 32)) {
		t.Error("Bytes shares memory with its argument")
	}
	if got := Bytes(d); got[0] != 0xe3 {
		t.Errorf("Bytes gives out the same memory again: %x", got)
	}
	d[0] = 0
	if h.Sum() != known(nil) {
		t.Error("Sum gives out the state")
	}
}
