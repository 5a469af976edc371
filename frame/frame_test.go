package frame

import (
	"math"
	"math/rand"
	"slices"
	"testing"

	"instar/api"
)

const ones = math.MaxUint32

// sum counts the zero bits of words, bit by bit.
func sum(w []uint32) uint32 {
	n := uint32(0)
	for _, x := range w {
		for b := range 32 {
			if x&(1<<b) == 0 {
				n++
			}
		}
	}
	return n
}

// twin returns the word with n in its lower half and the complement of n in its upper half.
func twin(n int) uint32 { return uint32(65536*(65535-n) + n) }

// sealed returns words followed by their sum.
func sealed(w ...uint32) []uint32 { return append(slices.Clone(w), sum(w)) }

// wordsOf returns the words of a frame as the chapter defines them.
func wordsOf(f Frame) []uint32 {
	return sealed(append([]uint32{twin(len(f.Load)), uint32(f.Kind*(1<<30) + f.Seq)}, f.Load...)...)
}

// valid reports whether a frame is valid.
func valid(f Frame) bool {
	return (f.Kind == 1 || f.Kind == 2) && f.Seq >= 1 && f.Seq <= 1<<30-1 && len(f.Load) >= 1 && len(f.Load) <= 56
}

// found returns the frame with whose words w begins: the first one, of all lengths that a load may have.
func found(w []uint32) (Frame, int, bool) {
	for n := 1; n <= 56 && n+3 <= len(w); n++ {
		f := Frame{Kind: int(w[1] / (1 << 30)), Seq: int(w[1] % (1 << 30)), Load: slices.Clone(w[2 : 2+n])}
		if valid(f) && slices.Equal(wordsOf(f), w[:n+3]) {
			return f, n + 3, true
		}
	}
	return Frame{}, 0, false
}

func same(f, g Frame) bool {
	return f.Kind == g.Kind && f.Seq == g.Seq && slices.Equal(f.Load, g.Load)
}

func checkLay(t *testing.T, f Frame, want []uint32, e api.Errno) {
	t.Helper()
	if w, got := Lay(f); !slices.Equal(w, want) || got != e {
		t.Errorf("Lay(%+v) is %x, %d, not %x, %d", f, w, got, want, e)
	}
}

func checkRead(t *testing.T, what string, w []uint32, want Frame, size int, ok bool) {
	t.Helper()
	if f, n, is := Read(w); !same(f, want) || n != size || is != ok {
		t.Fatalf("%s: Read(%x) is %+v, %d, %t, not %+v, %d, %t", what, w, f, n, is, want, size, ok)
	}
}

func checkNoFrame(t *testing.T, what string, w []uint32) {
	t.Helper()
	checkRead(t, what, w, Frame{}, 0, false)
}

// load returns n words, of which some have all bits 0, some all bits 1, and some any bits.
func load(r *rand.Rand, n int) []uint32 {
	l := make([]uint32, n)
	for i := range l {
		l[i] = []uint32{0, ones, uint32(r.Intn(60)), r.Uint32()}[r.Intn(4)]
	}
	return l
}

func anySeq(r *rand.Rand) int {
	return []int{1, 2, 1<<30 - 1, 1<<30 - 2, 1 << r.Intn(30), 1 + r.Intn(1<<30-1)}[r.Intn(6)]
}

func anyFrame(r *rand.Rand) Frame {
	n := []int{1, 2, 55, 56, 1 + r.Intn(8), 1 + r.Intn(56)}[r.Intn(6)]
	return Frame{Kind: 1 + r.Intn(2), Seq: anySeq(r), Load: load(r, n)}
}

// frames returns frames with every kind, every number of words, and the least and the greatest sequence numbers.
func frames() []Frame {
	r := rand.New(rand.NewSource(1))
	l := []Frame{}
	for n := 1; n <= 56; n++ {
		for _, kind := range []int{Whole, Change} {
			for _, seq := range []int{1, 2, 1000, 1 << 29, 1<<30 - 2, 1<<30 - 1} {
				l = append(l, Frame{kind, seq, load(r, n)})
			}
			l = append(l, Frame{kind, 1, make([]uint32, n)}, Frame{kind, 1<<30 - 1, slices.Repeat([]uint32{ones}, n)})
		}
	}
	return l
}

// odd returns numbers that an overflow, or a conversion to fewer bits, could bring into bounds.
func odd() []int {
	return []int{math.MinInt, math.MinInt + 1, math.MinInt + 2, math.MinInt32, -1 << 32, 1 - 1<<32, 2 - 1<<32, -65535, -3, -2, -1,
		1 << 16, 1<<16 + 1, 1<<16 + 2, math.MaxInt32, math.MaxUint32, 1 << 32, 1<<32 + 1, 1<<32 + 2, 1 << 62, math.MaxInt - 2, math.MaxInt - 1, math.MaxInt}
}

// The example of the chapter.
func TestExample(t *testing.T) {
	f := Frame{Kind: Change, Seq: 1, Load: []uint32{5}}
	w := []uint32{4294836225, 2147483649, 5, 76}
	checkLay(t, f, w, api.OK)
	checkRead(t, "the example", w, f, 4, true)
	if Whole != 1 || Change != 2 {
		t.Errorf("Whole is %d and Change is %d", Whole, Change)
	}
}

// P10.1
func TestSize(t *testing.T) {
	for n := -100; n <= 70000; n++ {
		want := 0
		if n >= 1 && n <= 56 {
			want = n + 3
		}
		if got := Size(n); got != want {
			t.Errorf("Size(%d) is %d, not %d", n, got, want)
		}
	}
	for _, n := range odd() {
		if got := Size(n); got != 0 {
			t.Errorf("Size(%d) is %d, not 0", n, got)
		}
	}
}

// P10.1
func TestLay(t *testing.T) {
	for _, f := range frames() {
		w := wordsOf(f)
		checkLay(t, f, w, api.OK)
		if len(w) != Size(len(f.Load)) {
			t.Errorf("Size(%d) is %d, not %d", len(f.Load), Size(len(f.Load)), len(w))
		}
	}
	r := rand.New(rand.NewSource(2))
	for range 5000 {
		f := anyFrame(r)
		checkLay(t, f, wordsOf(f), api.OK)
	}
}

// P10.1: frames that are not valid, in one member or in several.
func TestLayOfInvalidFrames(t *testing.T) {
	for _, kind := range append(odd(), 0, 3, 4, 5, 6, 7) {
		for _, n := range []int{1, 56} {
			checkLay(t, Frame{kind, 1, make([]uint32, n)}, nil, api.ErrArg)
			checkLay(t, Frame{kind, 1<<30 - 1, make([]uint32, n)}, nil, api.ErrArg)
		}
	}
	seqs := append(odd(), 0, 1<<30, 1<<30+1, 1<<31, 1<<31+1)
	seqs = slices.DeleteFunc(seqs, func(seq int) bool { return seq >= 1 && seq < 1<<30 })
	for _, seq := range seqs {
		for _, kind := range []int{Whole, Change} {
			checkLay(t, Frame{kind, seq, []uint32{5}}, nil, api.ErrArg)
			checkLay(t, Frame{kind, seq, make([]uint32, 56)}, nil, api.ErrArg)
		}
	}
	for _, n := range []int{0, 57, 58, 59, 255, 256, 257, 65535, 65536, 65537, 65592} {
		for _, kind := range []int{Whole, Change} {
			if w, e := Lay(Frame{kind, 1, make([]uint32, n)}); w != nil || e != api.ErrArg {
				t.Errorf("Lay of a load of %d words is error %d", n, e)
			}
		}
	}
	checkLay(t, Frame{}, nil, api.ErrArg)
	checkLay(t, Frame{Kind: Whole, Seq: 1}, nil, api.ErrArg)
	checkLay(t, Frame{Kind: -1, Seq: -1, Load: make([]uint32, 57)}, nil, api.ErrArg)
}

// followers returns words that may follow a frame.
func followers(r *rand.Rand) [][]uint32 {
	return [][]uint32{nil, {0}, {ones}, {4}, make([]uint32, 60), slices.Repeat([]uint32{ones}, 60), wordsOf(anyFrame(r)), load(r, 1+r.Intn(100))}
}

// P10.2, P10.3: the words of a frame, whatever follows them.
func TestRead(t *testing.T) {
	r := rand.New(rand.NewSource(3))
	for _, f := range frames() {
		w := wordsOf(f)
		for _, l := range followers(r) {
			checkRead(t, "a frame", slices.Concat(w, l), f, len(w), true)
		}
	}
}

// P10.2: words that would be those of a frame, if it were valid.
func TestReadOfInvalidFrames(t *testing.T) {
	for _, n := range []int{1, 2, 55, 56} {
		w := append([]uint32{twin(n), 1<<30 | 1}, make([]uint32, n)...)
		checkRead(t, "a frame", sealed(w...), Frame{1, 1, make([]uint32, n)}, n+3, true)
		for _, x := range []uint32{0, 1, 1<<30 - 1, 1 << 30, 2 << 30, 3 << 30, 3<<30 | 1, ones} {
			w[1] = x
			checkNoFrame(t, "another kind, or sequence number 0", sealed(w...))
		}
	}
	for _, n := range []int{0, 57, 58, 60, 255, 256, 257, 1000, 65535} {
		w := append([]uint32{twin(n), 1<<30 | 1}, make([]uint32, n)...)
		checkNoFrame(t, "another number of words", sealed(w...))
		checkNoFrame(t, "another number of words, and more", append(sealed(w...), load(rand.New(rand.NewSource(4)), 70)...))
	}
	for _, x := range []uint32{1, 0x00010001, 0xFFFF0001, 0xFFFE0000, 0xFFFE0002, 0xFFFE0101, 0x0001FFFE, 0, ones} {
		checkNoFrame(t, "a first word that is no twin", sealed(x, 1<<30|1, 5))
		checkNoFrame(t, "a first word that is no twin, and more", append(sealed(x, 1<<30|1, 5), make([]uint32, 70)...))
	}
}

// P10.2: every other sum near the right one, and with one bit more or less.
func TestReadWithOtherSums(t *testing.T) {
	for _, f := range frames() {
		w := wordsOf(f)
		last := len(w) - 1
		right := w[last]
		for _, x := range []uint32{0, right - 1, right + 1, ^right, ones, -right} {
			w[last] = x
			checkNoFrame(t, "another sum", w)
		}
		for b := range 32 {
			w[last] = right ^ 1<<b
			checkNoFrame(t, "another sum", w)
			checkNoFrame(t, "another sum, and more", append(slices.Clone(w), right, right))
		}
	}
}

// P10.2: words that are too few.
func TestReadOfFewWords(t *testing.T) {
	checkNoFrame(t, "nil", nil)
	checkNoFrame(t, "no words", []uint32{})
	for _, f := range frames() {
		w := wordsOf(f)
		for n := range w {
			// The words behind the end of the slice are there in memory, but not in it.
			checkNoFrame(t, "a frame cut off", w[:n])
		}
	}
	for n := range 65536 {
		checkNoFrame(t, "a first word alone", []uint32{twin(n)})
		checkNoFrame(t, "a first word and a second", []uint32{twin(n), 1<<30 | 1})
		checkNoFrame(t, "a first word and two more", []uint32{twin(n), 1<<30 | 1, sum([]uint32{twin(n), 1<<30 | 1})})
	}
}

// damaged returns words with some bits of some of them changed, or the words moved, and mostly sealed again.
func damaged(r *rand.Rand, w []uint32) []uint32 {
	w = slices.Clone(w)
	for range 1 + r.Intn(3) {
		at := r.Intn(len(w))
		switch r.Intn(5) {
		case 0:
			w[at] ^= 1 << r.Intn(32)
		case 1:
			w[at] = r.Uint32()
		case 2:
			w[at]++
		case 3:
			w[r.Intn(min(2, len(w)))] = []uint32{twin(r.Intn(60)), uint32(r.Intn(4)<<30 + r.Intn(2))}[r.Intn(2)]
		case 4:
			other := r.Intn(len(w))
			w[at], w[other] = w[other], w[at]
		}
	}
	if r.Intn(3) > 0 {
		w[len(w)-1] = sum(w[:len(w)-1])
	}
	return w
}

// P10.2: against the definition, for words of frames of which anything has changed.
func TestReadAgainstDefinition(t *testing.T) {
	r := rand.New(rand.NewSource(5))
	read := 0
	for range 60000 {
		w := damaged(r, wordsOf(anyFrame(r)))
		w = append(w, followers(r)[r.Intn(8)]...)
		f, n, ok := found(w)
		checkRead(t, "any words", w, f, n, ok)
		if ok {
			read++
		}
	}
	if read < 10000 || read > 50000 {
		t.Errorf("%d of 60000 lists of words are frames", read)
	}
}

// zerosOf returns the places of the bits of words that are 0: the place b of word i is 32 * i + b.
func zerosOf(w []uint32) []int {
	l := []int{}
	for i, x := range w {
		for b := range 32 {
			if x&(1<<b) == 0 {
				l = append(l, 32*i+b)
			}
		}
	}
	return l
}

// raised returns the words with the bits at those places set.
func raised(w []uint32, places ...int) []uint32 {
	w = slices.Clone(w)
	for _, p := range places {
		w[p/32] |= 1 << (p % 32)
	}
	return w
}

// P10.3: every bit, and every two bits, that change from 0 to 1.
func TestOneAndTwoBits(t *testing.T) {
	r := rand.New(rand.NewSource(6))
	for _, f := range []Frame{
		{Change, 1, []uint32{5}}, {Whole, 1<<30 - 1, []uint32{ones}}, {Whole, 1, []uint32{0}}, {Change, 1 << 20, []uint32{8, 0xFFFFFFFE}}, {Whole, 7, load(r, 6)},
	} {
		w := wordsOf(f)
		l := zerosOf(w)
		more := followers(r)
		for i, p := range l {
			for _, q := range l[i:] {
				x := raised(w, p, q)
				checkNoFrame(t, "two bits", x)
				checkNoFrame(t, "two bits, and more", slices.Concat(x, more[(p+q)%len(more)]))
			}
		}
	}
}

// P10.3: every number of words with every set of bits of it that change from 0 to 1, followed by what could be the rest of a frame of any length.
func TestBitsOfFirstWord(t *testing.T) {
	w := append([]uint32{0, 1<<30 | 1}, make([]uint32, 60)...)
	for n := range 57 {
		first := twin(n)
		for set := uint32(1); set < 1<<16; set++ {
			// The bits that are 0 are those of n's complement below, and those of n above.
			x := first | set&^uint32(n)&0xFFFF | set&uint32(n)<<16
			if x != first {
				w[0] = x
				checkNoFrame(t, "a changed first word", w)
			}
		}
	}
}

// some returns some of the numbers of a list: one, a few, half, or all of them.
func some(r *rand.Rand, l []int) []int {
	l = slices.Clone(l)
	r.Shuffle(len(l), func(i, j int) { l[i], l[j] = l[j], l[i] })
	return l[:[]int{1, min(len(l), 1+r.Intn(4)), (len(l) + 1) / 2, 1 + r.Intn(len(l)), len(l)}[r.Intn(5)]]
}

// P10.3: any set of bits that change from 0 to 1, anywhere or in one word.
func TestAnyBits(t *testing.T) {
	r := rand.New(rand.NewSource(7))
	for range 20000 {
		w := wordsOf(anyFrame(r))
		l := zerosOf(w)
		if r.Intn(2) == 0 {
			at := []int{0, 1, r.Intn(len(w)), len(w) - 1}[r.Intn(4)]
			l = slices.DeleteFunc(l, func(p int) bool { return p/32 != at })
		}
		if len(l) == 0 {
			continue
		}
		x := raised(w, some(r, l)...)
		for _, more := range followers(r) {
			checkNoFrame(t, "changed bits", slices.Concat(x, more))
		}
	}
}

// P10.3: bits of the load and of the sum that change so that the lower bits of the sum fit the count again, as far as they can.
func TestBitsOfLoadAndSum(t *testing.T) {
	for n := 1; n <= 56; n++ {
		w := wordsOf(Frame{Whole, 3, make([]uint32, n)})
		for k := 1; k <= 32*n; k++ {
			x := slices.Clone(w)
			for p := range k {
				x[2+p/32] |= 1 << (p % 32)
			}
			last := len(x) - 1
			x[last] |= w[last] - uint32(k)
			checkNoFrame(t, "a changed load and sum", x)
		}
	}
}

// P10.3: every proper prefix of a frame, followed by words whose bits are all 1.
func TestPrefix(t *testing.T) {
	for _, f := range frames() {
		w := wordsOf(f)
		for n := range w {
			for _, m := range []int{0, 1, len(w) - n - 1, len(w) - n, len(w) - n + 1, 60, 100} {
				checkNoFrame(t, "a prefix", slices.Concat(w[:n], slices.Repeat([]uint32{ones}, m)))
			}
		}
	}
}

// P10.3: prefixes of which bits have changed from 0 to 1.
func TestChangedPrefix(t *testing.T) {
	r := rand.New(rand.NewSource(8))
	for range 20000 {
		w := wordsOf(anyFrame(r))
		p := w[:1+r.Intn(len(w)-1)]
		if l := zerosOf(p); len(l) > 0 {
			p = raised(p, some(r, l)...)
		}
		checkNoFrame(t, "a changed prefix", slices.Concat(p, slices.Repeat([]uint32{ones}, 100)))
		checkNoFrame(t, "a changed prefix", slices.Concat(p, slices.Repeat([]uint32{ones}, len(w)-len(p))))
	}
	for n := range 100 {
		checkNoFrame(t, "blank words", slices.Repeat([]uint32{ones}, n))
	}
}

// A frame of all the words that Lay returned is the frame that was laid (P10.1 with P10.2).
func TestThereAndBack(t *testing.T) {
	r := rand.New(rand.NewSource(9))
	for range 3000 {
		l := []Frame{anyFrame(r), anyFrame(r), anyFrame(r)}
		words := []uint32{}
		for _, f := range l {
			w, e := Lay(f)
			if e != api.OK {
				t.Fatalf("Lay(%+v) is error %d", f, e)
			}
			words = append(words, w...)
		}
		for _, f := range l {
			size := Size(len(f.Load))
			checkRead(t, "one of three frames", words, f, size, true)
			words = words[size:]
		}
		checkNoFrame(t, "the end", words)
	}
}

// R3: arguments and their spare capacity keep their values, and results are new memory.
func TestMemory(t *testing.T) {
	room := []uint32{7, 8, 9, 10, 11, 12, 13, 14}
	f := Frame{Whole, 5, room[2:4]}
	w, _ := Lay(f)
	v, _ := Lay(f)
	if !slices.Equal(room, []uint32{7, 8, 9, 10, 11, 12, 13, 14}) {
		t.Errorf("Lay has changed its argument: %d", room)
	}
	for i := range w {
		w[i] = 0
	}
	checkRead(t, "the words of a second call", v, f, 5, true)
	room[2] = 70
	checkRead(t, "the words after a change of the load", v, Frame{Whole, 5, []uint32{9, 10}}, 5, true)

	room = append(append([]uint32{1}, v...), 2, 3, 4)
	before := slices.Clone(room)
	g, _, _ := Read(room[1:6])
	h, _, _ := Read(room[1:6])
	g.Load[0] = 100
	_ = append(g.Load, 200, 201)
	if !slices.Equal(room, before) {
		t.Errorf("the words have changed with the result of Read: %x, not %x", room, before)
	}
	clear(room)
	if !same(h, Frame{Whole, 5, []uint32{9, 10}}) {
		t.Errorf("the result of Read has changed with its argument, or with another result: %+v", h)
	}
}

// R3: without a frame the result is the zero value.
func TestZeroValues(t *testing.T) {
	for _, w := range [][]uint32{nil, {twin(1), 1<<30 | 1, 5, 0}, sealed(twin(1), 3<<30|1, 5), sealed(twin(1), 1<<30, 5)} {
		if f, n, ok := Read(w); f.Kind != 0 || f.Seq != 0 || len(f.Load) != 0 || n != 0 || ok {
			t.Errorf("Read(%x) is %+v, %d, %t", w, f, n, ok)
		}
	}
}
