package flash

import (
	"math"
	"math/rand"
	"slices"
	"testing"

	"instar/api"
)

const ones = math.MaxUint32

// made returns a flash with the given numbers of sectors and of words per sector.
func made(t *testing.T, sectors, words int) *Flash {
	t.Helper()
	f, e := New(sectors, words)
	if f == nil || e != api.OK {
		t.Fatalf("New(%d, %d) is %v, %d", sectors, words, f, e)
	}
	return f
}

// programmed returns a flash in which one word after the other, from address 0 on, has been given a value.
func programmed(t *testing.T, sectors, words int, l ...uint32) *Flash {
	t.Helper()
	f := made(t, sectors, words)
	for a, x := range l {
		check(t, "Program", f.Program(a, x), api.OK)
	}
	return f
}

func check(t *testing.T, what string, got, want api.Errno) {
	t.Helper()
	if got != want {
		t.Errorf("%s: error %d, not %d", what, got, want)
	}
}

// checkWords checks all words, as Words returns them and, with power, as Read does.
func checkWords(t *testing.T, what string, f *Flash, want ...uint32) {
	t.Helper()
	if l := f.Words(); !slices.Equal(l, want) {
		t.Errorf("%s: Words is %x, not %x", what, l, want)
	}
	if f.Gone() {
		return
	}
	for a, x := range want {
		if y, e := f.Read(a); y != x || e != api.OK {
			t.Errorf("%s: Read(%d) is %x, %d, not %x", what, a, y, e, x)
		}
	}
}

// face is all that can be seen of a flash.
type face struct {
	sectors, long, writes int
	gone                  bool
	wear                  [4]int
}

func faceOf(f *Flash) face {
	s, l := f.Size()
	v := face{sectors: s, long: l, writes: f.Writes(), gone: f.Gone()}
	for i := range v.wear {
		v.wear[i] = f.Wear(i)
	}
	return v
}

// checkUnchanged calls do and checks that nothing of the flash has changed.
func checkUnchanged(t *testing.T, what string, f *Flash, do func()) {
	t.Helper()
	was, words := faceOf(f), f.Words()
	do()
	if now := faceOf(f); now != was {
		t.Errorf("%s: from %v to %v", what, was, now)
	}
	if !slices.Equal(f.Words(), words) {
		t.Errorf("%s: the words have changed", what)
	}
}

// P7.1
func TestNew(t *testing.T) {
	for _, c := range []struct {
		sectors, words int
		e              api.Errno
	}{
		{1, 1, api.OK}, {1, 1024, api.OK}, {512, 1, api.OK}, {512, 1024, api.OK}, {2, 4, api.OK}, {511, 1023, api.OK}, {3, 63, api.OK},
		{0, 1, api.ErrArg}, {1, 0, api.ErrArg}, {0, 0, api.ErrArg}, {513, 1, api.ErrArg}, {1, 1025, api.ErrArg}, {513, 1025, api.ErrArg},
		{-1, 1, api.ErrArg}, {1, -1, api.ErrArg}, {-1, -1, api.ErrArg}, {-2, -4, api.ErrArg},
		{math.MinInt, 1, api.ErrArg}, {1, math.MinInt, api.ErrArg}, {math.MaxInt, 1, api.ErrArg}, {1, math.MaxInt, api.ErrArg},
		{math.MaxInt, math.MaxInt, api.ErrArg}, {math.MinInt, math.MinInt, api.ErrArg}, {1<<32 + 1, 1, api.ErrArg}, {1, 1<<32 + 1, api.ErrArg},
	} {
		f, e := New(c.sectors, c.words)
		if e != c.e || (f == nil) != (c.e != api.OK) {
			t.Errorf("New(%d, %d) is %v, %d", c.sectors, c.words, f != nil, e)
		}
		if e != api.OK {
			continue
		}
		if s, n := f.Size(); s != c.sectors || n != c.words {
			t.Errorf("New(%d, %d): Size is %d, %d", c.sectors, c.words, s, n)
		}
		if want := (face{sectors: c.sectors, long: c.words}); faceOf(f) != want {
			t.Errorf("New(%d, %d): %v, not %v", c.sectors, c.words, faceOf(f), want)
		}
		checkWords(t, "New", f, slices.Repeat([]uint32{ones}, c.sectors*c.words)...)
	}
}

// P7.1: a new flash has no fuse, so that any number of writes succeed.
func TestNewHasNoFuse(t *testing.T) {
	f := made(t, 2, 4)
	for i := range 1000 {
		check(t, "Program", f.Program(i%8, 0), api.OK)
		check(t, "Erase", f.Erase(i%2), api.OK)
	}
	if f.Writes() != 2000 || f.Wear(0) != 500 || f.Wear(1) != 500 {
		t.Errorf("%d writes, erased %d and %d times", f.Writes(), f.Wear(0), f.Wear(1))
	}
}

// The example of the chapter.
func TestExample(t *testing.T) {
	f := made(t, 2, 4)
	check(t, "Program of 5", f.Program(0, 5), api.OK)
	check(t, "Program of 7", f.Program(0, 7), api.ErrBits)
	check(t, "Program of 1", f.Program(0, 1), api.OK)
	f.Arm(0, []uint32{4294967295})
	check(t, "Erase", f.Erase(0), api.ErrPower)
	if f.Words()[0] != ones {
		t.Errorf("word 0 is %x", f.Words()[0])
	}
}

// P7.2: a nil flash, before all other errors.
func TestAccessToNil(t *testing.T) {
	var f *Flash
	for _, a := range []int{-1, 0, 1, math.MinInt, math.MaxInt} {
		if x, e := f.Read(a); x != 0 || e != api.ErrNil {
			t.Errorf("Read(%d) is %d, %d", a, x, e)
		}
		check(t, "Program", f.Program(a, 0), api.ErrNil)
		check(t, "Erase", f.Erase(a), api.ErrNil)
	}
}

// P7.2, P7.5: words and sectors that do not exist.
func TestAccessOutOfRange(t *testing.T) {
	f := programmed(t, 3, 4, 1, 2, 3)
	f.Arm(0, nil)
	for _, a := range []int{-1, -2, -12, 12, 13, 24, math.MinInt, math.MaxInt, 1 << 32, 1<<32 + 1, -1 << 32} {
		checkUnchanged(t, "address out of range", f, func() {
			if x, e := f.Read(a); x != 0 || e != api.ErrRange {
				t.Errorf("Read(%d) is %d, %d", a, x, e)
			}
			check(t, "Program", f.Program(a, 0), api.ErrRange)
			check(t, "Program", f.Program(a, ones), api.ErrRange)
		})
	}
	for _, s := range []int{-1, -3, 3, 4, 11, 12, math.MinInt, math.MaxInt, math.MaxInt/4 + 1, math.MinInt / 4, 1 << 32, 1<<32 + 1} {
		checkUnchanged(t, "sector out of range", f, func() {
			check(t, "Erase", f.Erase(s), api.ErrRange)
		})
	}
	check(t, "the fuse was used up: Erase", f.Erase(0), api.ErrPower)
}

// P7.2: every pair of words of four bits, in a word whose other bits are 1 or 0.
func TestProgram(t *testing.T) {
	for _, rest := range []uint32{0, 0xfffffff0} {
		for was := range uint32(16) {
			for x := range uint32(16) {
				f := programmed(t, 2, 2, 9, 8, rest|was, 7)
				want := api.OK
				if x&was != x {
					want = api.ErrBits
				}
				check(t, "Program", f.Program(2, rest|x), want)
				left, writes := x, 5
				if want != api.OK {
					left, writes = was, 4
				}
				checkWords(t, "Program", f, 9, 8, rest|left, 7)
				if f.Writes() != writes {
					t.Errorf("%x over %x: %d writes", x, was, f.Writes())
				}
			}
		}
	}
}

// P7.2: a bit alone is enough for ErrBits, which changes nothing and leaves the fuse as it is.
func TestProgramOfOneBit(t *testing.T) {
	for i := range 32 {
		bit := uint32(1) << i
		f := programmed(t, 1, 2, ones&^bit)
		f.Arm(1, []uint32{ones})
		checkUnchanged(t, "a bit that would have to be set", f, func() {
			check(t, "Program", f.Program(0, bit), api.ErrBits)
			check(t, "Program", f.Program(0, ones), api.ErrBits)
		})
		check(t, "Program", f.Program(1, bit), api.OK)
		check(t, "Program", f.Program(0, 0), api.ErrPower)
		checkWords(t, "Program", f, 0, bit)
	}
}

// P7.2: a write that changes no bit is a write as well.
func TestWriteOfTheSame(t *testing.T) {
	f := made(t, 1, 2)
	check(t, "Program", f.Program(0, ones), api.OK)
	check(t, "Erase", f.Erase(0), api.OK)
	if f.Writes() != 2 || f.Wear(0) != 1 {
		t.Errorf("%d writes, erased %d times", f.Writes(), f.Wear(0))
	}
	f.Arm(1, nil)
	check(t, "Program", f.Program(0, ones), api.OK)
	check(t, "Program", f.Program(0, ones), api.ErrPower)
}

// P7.2: an erasure sets all bits of its sector only.
func TestErase(t *testing.T) {
	l := []uint32{0, 1, 2, 3, 4, 5, 6, 7, 8}
	for s := range 3 {
		f := programmed(t, 3, 3, l...)
		check(t, "Erase", f.Erase(s), api.OK)
		want := slices.Clone(l)
		for i := range 3 {
			want[3*s+i] = ones
		}
		checkWords(t, "Erase", f, want...)
		wear := [4]int{}
		wear[s] = 1
		if v := (face{3, 3, 10, false, wear}); faceOf(f) != v {
			t.Errorf("Erase(%d): %v, not %v", s, faceOf(f), v)
		}
		check(t, "Program of an erased word", f.Program(3*s+1, 12), api.OK)
	}
}

// P7.2, P7.4: without power, before all errors but ErrNil.
func TestAccessWithoutPower(t *testing.T) {
	f := programmed(t, 2, 2, 1, 2, 3)
	f.Arm(0, nil)
	check(t, "Erase", f.Erase(1), api.ErrPower)
	checkUnchanged(t, "no power", f, func() {
		for _, a := range []int{0, 1, 2, 3, -1, 4, math.MinInt, math.MaxInt} {
			if x, e := f.Read(a); x != 0 || e != api.ErrPower {
				t.Errorf("Read(%d) is %d, %d", a, x, e)
			}
			check(t, "Program", f.Program(a, 0), api.ErrPower)
			check(t, "Program", f.Program(a, ones), api.ErrPower)
			check(t, "Erase", f.Erase(a), api.ErrPower)
		}
	})
	checkWords(t, "no power", f, 1, 2, 3, ones)
	f.Power()
	checkWords(t, "power again", f, 1, 2, 3, ones)
	check(t, "Program", f.Program(0, 0), api.OK)
	check(t, "Erase", f.Erase(1), api.OK)
}

// P7.2: every word of four bits over every other one, torn with every mask; masks behind the first one do not matter.
func TestTornProgram(t *testing.T) {
	for was := range uint32(16) {
		for x := range uint32(16) {
			for m := range uint32(16) {
				f := programmed(t, 2, 2, 9, was, 8)
				f.Arm(0, []uint32{m, 5, 6})
				if x&was != x {
					check(t, "Program", f.Program(1, x), api.ErrBits)
					checkWords(t, "rejected Program", f, 9, was, 8, ones)
					continue
				}
				check(t, "Program", f.Program(1, x), api.ErrPower)
				left := was
				for i := range 4 {
					if bit := uint32(1) << i; m&bit != 0 && x&bit == 0 {
						left &^= bit
					}
				}
				checkWords(t, "torn Program", f, 9, left, 8, ones)
				if v := (face{2, 2, 4, true, [4]int{}}); faceOf(f) != v {
					t.Errorf("torn Program: %v, not %v", faceOf(f), v)
				}
			}
		}
	}
}

// P7.2: the masks of a torn Erase, from fewer than the words to more of them.
func TestTornErase(t *testing.T) {
	for _, c := range []struct{ masks, left []uint32 }{
		{nil, []uint32{0x10, 0x21, 0x32, 0x43, 0x54}},
		{[]uint32{}, []uint32{0x10, 0x21, 0x32, 0x43, 0x54}},
		{[]uint32{0}, []uint32{0x10, 0x21, 0x32, 0x43, 0x54}},
		{[]uint32{8}, []uint32{0x18, 0x29, 0x3a, 0x4b, 0x5c}},
		{[]uint32{ones}, []uint32{ones, ones, ones, ones, ones}},
		{[]uint32{0x80000000, 3}, []uint32{0x80000010, 0x23, 0x80000032, 0x43, 0x80000054}},
		{[]uint32{0x100, 0x200, 0x400}, []uint32{0x110, 0x221, 0x432, 0x143, 0x254}},
		{[]uint32{0x100, 0x200, 0x400, 0x800}, []uint32{0x110, 0x221, 0x432, 0x843, 0x154}},
		{[]uint32{0x100, 0x200, 0x400, 0x800, 0x1000}, []uint32{0x110, 0x221, 0x432, 0x843, 0x1054}},
		{[]uint32{0x100, 0x200, 0x400, 0x800, 0x1000, 0x2000}, []uint32{0x110, 0x221, 0x432, 0x843, 0x1054}},
		{[]uint32{0x100, 0x200, 0x400, 0x800, 0x1000, 0x2000, 0x4000, 0x8000}, []uint32{0x110, 0x221, 0x432, 0x843, 0x1054}},
	} {
		f := programmed(t, 3, 5, 0, 0, 0, 0, 0, 0x10, 0x21, 0x32, 0x43, 0x54, 1)
		f.Arm(0, c.masks)
		check(t, "Erase", f.Erase(1), api.ErrPower)
		want := slices.Concat(make([]uint32, 5), c.left, []uint32{1, ones, ones, ones, ones})
		checkWords(t, "torn Erase", f, want...)
		if v := (face{3, 5, 12, true, [4]int{0, 1}}); faceOf(f) != v {
			t.Errorf("torn Erase: %v, not %v", faceOf(f), v)
		}
	}
}

// P7.3: the fuse tears the write after as many others as it was armed with; neither reading nor a rejected call counts.
func TestArm(t *testing.T) {
	for after := range 20 {
		f := made(t, 2, 2)
		f.Arm(after, nil)
		for i := range after {
			f.Read(0)
			f.Read(-1)
			f.Words()
			f.Copy().Erase(0)
			check(t, "Program", f.Program(4, 0), api.ErrRange)
			check(t, "Erase", f.Erase(2), api.ErrRange)
			if i%2 == 0 {
				check(t, "Program", f.Program(1, 0), api.OK)
				check(t, "Program", f.Program(1, 1), api.ErrBits)
			} else {
				check(t, "Erase", f.Erase(0), api.OK)
			}
			if f.Gone() {
				t.Errorf("Arm(%d): no power after %d writes", after, i+1)
			}
		}
		if after%3 == 0 {
			check(t, "torn Program", f.Program(3, 0), api.ErrPower)
		} else {
			check(t, "torn Erase", f.Erase(1), api.ErrPower)
		}
		if !f.Gone() || f.Writes() != after+1 {
			t.Errorf("Arm(%d): gone is %t after %d writes", after, f.Gone(), f.Writes())
		}
	}
}

// P7.3: fuses that no run reaches.
func TestArmWithMany(t *testing.T) {
	for _, after := range []int{1000, math.MaxInt32, 1 << 32, math.MaxInt} {
		f := made(t, 1, 1)
		f.Arm(after, nil)
		for range 1000 {
			check(t, "Erase", f.Erase(0), api.OK)
		}
	}
}

// P7.3: a second fuse replaces the first one, its masks included, and a negative number removes it.
func TestArmAgain(t *testing.T) {
	f := made(t, 1, 2)
	f.Arm(0, []uint32{ones})
	f.Arm(2, []uint32{3})
	check(t, "Erase", f.Erase(0), api.OK)
	check(t, "Erase", f.Erase(0), api.OK)
	check(t, "Program", f.Program(0, 0), api.ErrPower)
	checkWords(t, "the masks of the second fuse", f, ones-3, ones)
	f.Power()
	f.Arm(2, []uint32{ones})
	check(t, "Erase", f.Erase(0), api.OK)
	f.Arm(1, nil)
	check(t, "Program", f.Program(0, 5), api.OK)
	check(t, "Program", f.Program(0, 0), api.ErrPower)
	checkWords(t, "no masks", f, 5, ones)
	f.Power()
	for _, after := range []int{-1, -2, math.MinInt} {
		f.Arm(0, []uint32{ones})
		f.Arm(after, []uint32{ones})
		for range 5 {
			check(t, "a removed fuse: Erase", f.Erase(0), api.OK)
		}
		f.Arm(1, []uint32{ones})
		check(t, "Erase", f.Erase(0), api.OK)
		f.Arm(after, nil)
		for range 5 {
			check(t, "a removed fuse: Program", f.Program(0, 0), api.OK)
		}
	}
}

// P7.3: Power restores the power supply and removes the fuse, whether or not there was power.
func TestPower(t *testing.T) {
	f := programmed(t, 1, 2, 7)
	f.Arm(0, nil)
	checkUnchanged(t, "Power with power", f, f.Power)
	check(t, "Program", f.Program(0, 6), api.OK)
	f.Arm(0, []uint32{ones})
	check(t, "Program", f.Program(0, 4), api.ErrPower)
	f.Arm(0, nil)
	if !f.Gone() {
		t.Error("Arm restored the power supply")
	}
	f.Power()
	if f.Gone() {
		t.Error("no power after Power")
	}
	checkWords(t, "Power", f, 4, ones)
	for range 10 {
		check(t, "the fuse is still there: Erase", f.Erase(0), api.OK)
	}
	for range 3 {
		f.Arm(0, nil)
		check(t, "Erase", f.Erase(0), api.ErrPower)
		f.Arm(-1, nil)
		check(t, "Erase", f.Erase(0), api.ErrPower)
		f.Power()
		check(t, "Erase", f.Erase(0), api.OK)
	}
}

// P7.1, P7.3, P7.4: a nil flash.
func TestNil(t *testing.T) {
	var f *Flash
	f.Arm(0, []uint32{1})
	f.Arm(-1, nil)
	f.Power()
	if !f.Gone() {
		t.Error("a nil flash has power")
	}
	if s, n := f.Size(); s != 0 || n != 0 || f.Writes() != 0 || f.Wear(0) != 0 || f.Wear(-1) != 0 || len(f.Words()) != 0 || f.Copy() != nil {
		t.Error("a nil flash is not empty")
	}
}

// P7.4: erasures of each sector, and of those that do not exist.
func TestWear(t *testing.T) {
	f := made(t, 512, 1)
	for s := range 512 {
		for range s % 3 {
			check(t, "Erase", f.Erase(s), api.OK)
		}
	}
	f.Arm(0, nil)
	check(t, "Erase", f.Erase(7), api.ErrPower)
	check(t, "Erase", f.Erase(8), api.ErrPower)
	for s := range 512 {
		want := s % 3
		if s == 7 {
			want++
		}
		if f.Wear(s) != want {
			t.Errorf("Wear(%d) is %d, not %d", s, f.Wear(s), want)
		}
	}
	for _, s := range []int{-1, -512, 512, 513, math.MinInt, math.MaxInt, 1 << 32, 1<<32 + 1} {
		if f.Wear(s) != 0 {
			t.Errorf("Wear(%d) is %d", s, f.Wear(s))
		}
	}
}

// R3: what Words returns is the caller's.
func TestWordsAreNew(t *testing.T) {
	f := programmed(t, 1, 3, 1, 2)
	l, k := f.Words(), f.Words()
	l[0], l[2] = 9, 0
	if !slices.Equal(k, []uint32{1, 2, ones}) {
		t.Errorf("another result of Words has become %x", k)
	}
	l = append(l, 7)
	checkWords(t, "Words", f, 1, 2, ones)
	k = f.Words()
	check(t, "Program", f.Program(0, 0), api.OK)
	check(t, "Program", f.Program(2, 0), api.OK)
	if !slices.Equal(k, []uint32{1, 2, ones}) {
		t.Errorf("a result of Words has become %x", k)
	}
}

// R3: masks are neither changed, nor is their spare capacity, nor do later changes of them matter.
func TestMasksAreNotRetained(t *testing.T) {
	all := []uint32{1, 2, 4, 8, 16, 32, 64, 128}
	for n := range 6 {
		masks := slices.Clone(all)[:n:8]
		f := programmed(t, 1, 4, 0, 0, 0, 0)
		f.Arm(0, masks)
		c := f.Copy()
		if !slices.Equal(masks[:8], all) {
			t.Errorf("%d masks: Arm left %x", n, masks[:8])
		}
		clear(masks[:8])
		check(t, "Erase", f.Erase(0), api.ErrPower)
		check(t, "Erase", c.Erase(0), api.ErrPower)
		want := make([]uint32, 4)
		for i := range want {
			if n > 0 {
				want[i] = all[i%n]
			}
		}
		checkWords(t, "masks that were changed", f, want...)
		checkWords(t, "masks that were changed, of a copy", c, want...)
		if !slices.Equal(masks[:8], make([]uint32, 8)) {
			t.Errorf("%d masks: Erase left %x", n, masks[:8])
		}
	}
}

// P7.4: a copy has the same words, wear, power and fuse, and nothing in common.
func TestCopy(t *testing.T) {
	f := programmed(t, 2, 2, 1, 2, 3)
	check(t, "Erase", f.Erase(1), api.OK)
	f.Arm(1, []uint32{1, 2})
	c := f.Copy()
	if faceOf(c) != faceOf(f) {
		t.Errorf("the copy is %v, not %v", faceOf(c), faceOf(f))
	}
	checkWords(t, "copy", c, 1, 2, ones, ones)

	checkUnchanged(t, "writes to the copy", f, func() {
		check(t, "Erase of the copy", c.Erase(0), api.OK)
		check(t, "torn Program of the copy", c.Program(3, 0), api.ErrPower)
	})
	checkWords(t, "copy", c, ones, ones, ones, ones-1)
	if v := (face{2, 2, 6, true, [4]int{1, 1}}); faceOf(c) != v {
		t.Errorf("the copy is %v, not %v", faceOf(c), v)
	}

	d := c.Copy()
	if faceOf(d) != faceOf(c) {
		t.Errorf("the copy without power is %v, not %v", faceOf(d), faceOf(c))
	}
	checkUnchanged(t, "writes to the original", c, func() {
		check(t, "Program", f.Program(0, 0), api.OK)
		check(t, "torn Erase", f.Erase(0), api.ErrPower)
		d.Power()
		check(t, "Erase", d.Erase(0), api.OK)
	})
	checkWords(t, "original", f, 1, 2, ones, ones)
	checkUnchanged(t, "Arm of the copy", d, func() {
		e := d.Copy()
		e.Arm(0, nil)
	})
	check(t, "Erase behind Arm of a copy", d.Erase(0), api.OK)
}

// model is a flash as the chapter defines it, bit by bit.
type model struct {
	words  [][]uint32 // by sector
	wear   []int
	writes int
	gone   bool
	fuse   int // further writes before the torn one, or -1
	masks  []uint32
}

func (m *model) mask(i int) uint32 {
	if len(m.masks) == 0 {
		return 0
	}
	return m.masks[i%len(m.masks)]
}

// torn counts a write.
func (m *model) torn() bool {
	m.writes++
	m.fuse--
	if m.fuse == -1 {
		m.gone = true
		return true
	}
	m.fuse = max(m.fuse, -1)
	return false
}

func (m *model) program(a int, x uint32) api.Errno {
	long := len(m.words[0])
	if m.gone {
		return api.ErrPower
	}
	if a < 0 || a >= len(m.words)*long {
		return api.ErrRange
	}
	p := &m.words[a/long][a%long]
	for i := range 32 {
		if *p>>i&1 < x>>i&1 {
			return api.ErrBits
		}
	}
	if !m.torn() {
		*p = x
		return api.OK
	}
	for i := range 32 {
		if m.mask(0)>>i&1 == 1 && x>>i&1 == 0 {
			*p &^= 1 << i
		}
	}
	return api.ErrPower
}

func (m *model) erase(s int) api.Errno {
	if m.gone {
		return api.ErrPower
	}
	if s < 0 || s >= len(m.words) {
		return api.ErrRange
	}
	m.wear[s]++
	e, torn := api.OK, m.torn()
	if torn {
		e = api.ErrPower
	}
	for i := range m.words[s] {
		for b := range 32 {
			if !torn || m.mask(i)>>b&1 == 1 {
				m.words[s][i] |= 1 << b
			}
		}
	}
	return e
}

// randomly does one operation on both and checks that the answers are the same.
func randomly(t *testing.T, r *rand.Rand, f *Flash, m *model) {
	t.Helper()
	sectors, long := len(m.words), len(m.words[0])
	switch r.Intn(12) {
	case 0:
		after, masks := r.Intn(10)-1, make([]uint32, r.Intn(2*long))
		for i := range masks {
			masks[i] = r.Uint32() | r.Uint32()
		}
		f.Arm(after, masks)
		m.fuse, m.masks = after, masks
	case 1, 2:
		f.Power()
		m.gone, m.fuse = false, -1
	case 3, 4, 5:
		s := r.Intn(sectors+2) - 1
		check(t, "Erase", f.Erase(s), m.erase(s))
	default:
		a, x := r.Intn(sectors*long+2)-1, r.Uint32()|r.Uint32()
		if l := f.Words(); r.Intn(8) > 0 && a >= 0 && a < len(l) {
			x &= l[a]
		}
		check(t, "Program", f.Program(a, x), m.program(a, x))
	}
}

// P7.2 to P7.5, R4: long runs against the model; bits change as the chapter says, and nothing changes but by a write.
func TestAgainstModel(t *testing.T) {
	r := rand.New(rand.NewSource(7))
	for range 200 {
		sectors, long := 1+r.Intn(4), 1+r.Intn(6)
		f, m := made(t, sectors, long), &model{wear: make([]int, sectors), fuse: -1}
		for range sectors {
			m.words = append(m.words, slices.Repeat([]uint32{ones}, long))
		}
		for range 300 {
			if r.Intn(20) == 0 {
				old := f
				f = f.Copy()
				old.Power()
				old.Erase(0)
			}
			randomly(t, r, f, m)
			v := face{sectors: sectors, long: long, writes: m.writes, gone: m.gone}
			copy(v.wear[:], m.wear)
			if faceOf(f) != v {
				t.Fatalf("%v, not %v", faceOf(f), v)
			}
			checkWords(t, "run", f, slices.Concat(m.words...)...)
			if t.Failed() {
				t.FailNow()
			}
		}
	}
}

// P7.5: whatever the fuse and the masks are, Program sets no bit, Erase clears none, and other words stay.
func TestDirections(t *testing.T) {
	r := rand.New(rand.NewSource(8))
	for range 3000 {
		f := made(t, 3, 4)
		for a := range 12 {
			f.Program(a, r.Uint32()|r.Uint32())
		}
		was := f.Words()
		f.Arm(r.Intn(2), []uint32{r.Uint32(), r.Uint32(), r.Uint32()})
		a, s := r.Intn(12), -1
		if r.Intn(2) == 0 {
			f.Program(a, was[a]&r.Uint32())
		} else {
			s = r.Intn(3)
			f.Erase(s)
		}
		for i, x := range f.Words() {
			switch {
			case i/4 == s && was[i]&^x != 0:
				t.Errorf("Erase made %x of %x", x, was[i])
			case s < 0 && i == a && x&^was[i] != 0:
				t.Errorf("Program made %x of %x", x, was[i])
			case i/4 != s && (s >= 0 || i != a) && x != was[i]:
				t.Errorf("word %d, which was not written, became %x from %x", i, x, was[i])
			}
		}
	}
}
