package drive

import (
	"math"
	"math/rand"
	"slices"
	"testing"

	"instar/api"
	"instar/flash"
)

const ones = math.MaxUint32

// long and sectors are the size of the flash that small needs.
const (
	long    = 64
	sectors = 11
)

func small() api.Geometry {
	return api.Geometry{Sector: long, Slot: 2, Data: 5, Quota: 2, Tries: 3, Life: 1000}
}

// flashOf returns a blank flash with the given numbers of sectors and of words per sector.
func flashOf(t *testing.T, sectors, words int) *flash.Flash {
	t.Helper()
	f, e := flash.New(sectors, words)
	if f == nil || e != api.OK {
		t.Fatalf("flash.New(%d, %d) is error %d", sectors, words, e)
	}
	return f
}

// made returns a drive with the geometry small, and its blank flash.
func made(t *testing.T) (*Drive, *flash.Flash) {
	t.Helper()
	f := flashOf(t, sectors, long)
	d, e := New(f, small())
	if d == nil || e != api.OK {
		t.Fatalf("New is error %d", e)
	}
	return d, f
}

// put programs words of the flash from index at of sector s on, without the drive.
func put(t *testing.T, f *flash.Flash, s, at int, w ...uint32) {
	t.Helper()
	for i, x := range w {
		check(t, "Program", f.Program(s*long+at+i, x), api.OK)
	}
}

// cut ends the power supply of the flash with a torn write that changes nothing.
func cut(t *testing.T, f *flash.Flash) {
	t.Helper()
	f.Arm(0, nil)
	check(t, "torn Program", f.Program(0, f.Words()[0]), api.ErrPower)
}

func check(t *testing.T, what string, got, want api.Errno) {
	t.Helper()
	if got != want {
		t.Errorf("%s: error %d, not %d", what, got, want)
	}
}

func checkRead(t *testing.T, d *Drive, s, at, n int, want []uint32, e api.Errno) {
	t.Helper()
	w, got := d.Read(s, at, n)
	if !slices.Equal(w, want) || got != e {
		t.Errorf("Read(%d, %d, %d) is %x, %d, not %x, %d", s, at, n, w, got, want, e)
	}
}

func checkBlank(t *testing.T, d *Drive, s, at int, want bool, e api.Errno) {
	t.Helper()
	if is, got := d.Blank(s, at); is != want || got != e {
		t.Errorf("Blank(%d, %d) is %t, %d, not %t, %d", s, at, is, got, want, e)
	}
}

// checkWords checks all words of the flash; the words that want does not list are blank.
func checkWords(t *testing.T, what string, f *flash.Flash, want map[int][]uint32) {
	t.Helper()
	l := f.Words()
	for s := range len(l) / long {
		w := slices.Concat(want[s], slices.Repeat([]uint32{ones}, long-len(want[s])))
		if got := l[s*long : (s+1)*long]; !slices.Equal(got, w) {
			t.Errorf("%s: sector %d is %x, not %x", what, s, got, w)
		}
	}
}

func checkWrites(t *testing.T, what string, f *flash.Flash, want int) {
	t.Helper()
	if f.Writes() != want {
		t.Errorf("%s: %d writes, not %d", what, f.Writes(), want)
	}
}

// checkUnchanged calls do and checks that it changes no word and performs no write.
func checkUnchanged(t *testing.T, what string, f *flash.Flash, do func()) {
	t.Helper()
	words, writes, gone := f.Words(), f.Writes(), f.Gone()
	do()
	checkWrites(t, what, f, writes)
	if !slices.Equal(f.Words(), words) || f.Gone() != gone {
		t.Errorf("%s: the flash has changed", what)
	}
}

// odd returns numbers that an overflow, or a conversion to fewer bits, could bring into bounds.
func odd() []int {
	return []int{math.MinInt, math.MinInt + 1, math.MinInt + long, math.MinInt32, -1 << 32, 1 - 1<<32, -long, -2, -1,
		math.MaxInt32, 1 << 32, 1<<32 + 1, 1 << 58, 1<<58 + 1, 1 << 62, math.MaxInt - long, math.MaxInt - 1, math.MaxInt}
}

// within reports whether a run exists.
func within(s, at, n int) bool {
	return s >= 0 && s < sectors && at >= 0 && at <= long && n >= 0 && n <= long && at+n <= long
}

// The example of the chapter.
func TestExample(t *testing.T) {
	d, f := made(t)
	check(t, "Write of 5", d.Write(0, 0, []uint32{5}), api.OK)
	check(t, "Write of 5 again", d.Write(0, 0, []uint32{5}), api.OK)
	checkWrites(t, "5 twice", f, 1)
	check(t, "Write of 7", d.Write(0, 0, []uint32{7}), api.ErrBits)
	checkWords(t, "the example", f, map[int][]uint32{0: {5}})
}

// P9.1
func TestNew(t *testing.T) {
	for _, g := range []api.Geometry{
		small(),
		{Sector: 64, Slot: 2, Data: 5, Quota: 2, Tries: 1, Life: 1},
		{Sector: 100, Slot: 3, Data: 9, Quota: 4, Tries: 9, Life: 1<<30 - 1},
		{Sector: 1024, Slot: 32, Data: 128, Quota: 125, Tries: 9, Life: 1<<30 - 1},
	} {
		n := 2 + 2*g.Slot + g.Data
		f := flashOf(t, n, g.Sector)
		d, e := New(f, g)
		if d == nil || e != api.OK || d.Geometry() != g {
			t.Errorf("New with %+v is error %d", g, e)
			continue
		}
		checkWrites(t, "New", f, 0)
		for _, c := range []struct{ s, at, n int }{{0, 0, g.Sector}, {n - 1, 0, g.Sector}, {n - 1, g.Sector, 0}} {
			checkRead(t, d, c.s, c.at, c.n, slices.Repeat([]uint32{ones}, c.n), api.OK)
		}
		checkRead(t, d, n, 0, 1, nil, api.ErrRange)
		checkRead(t, d, 0, 0, g.Sector+1, nil, api.ErrRange)
	}
}

func checkNoDrive(t *testing.T, what string, f *flash.Flash, g api.Geometry, want api.Errno) {
	t.Helper()
	if d, e := New(f, g); d != nil || e != want {
		t.Errorf("%s: New is %t, %d, not %d", what, d != nil, e, want)
	}
}

// P9.1: a nil flash, before a geometry that is not valid.
func TestNewOfNil(t *testing.T) {
	checkNoDrive(t, "nil flash", nil, small(), api.ErrNil)
	checkNoDrive(t, "nil flash and no geometry", nil, api.Geometry{}, api.ErrNil)
	checkNoDrive(t, "nil flash and negative geometry", nil, api.Geometry{Sector: -1, Slot: math.MinInt}, api.ErrNil)
}

// P9.1: geometries that are not valid, on a flash that has their sectors.
func TestNewWithInvalidGeometry(t *testing.T) {
	for _, g := range []api.Geometry{
		{},
		{Sector: 63, Slot: 2, Data: 5, Quota: 2, Tries: 3, Life: 1000},
		{Sector: 64, Slot: 1, Data: 5, Quota: 2, Tries: 3, Life: 1000},
		{Sector: 64, Slot: 2, Data: 5, Quota: 1, Tries: 3, Life: 1000},
		{Sector: 64, Slot: 2, Data: 5, Quota: 3, Tries: 3, Life: 1000},
		{Sector: 64, Slot: 2, Data: 4, Quota: 2, Tries: 3, Life: 1000},
		{Sector: 64, Slot: 2, Data: 5, Quota: 2, Tries: 0, Life: 1000},
		{Sector: 64, Slot: 2, Data: 5, Quota: 2, Tries: 10, Life: 1000},
		{Sector: 64, Slot: 2, Data: 5, Quota: 2, Tries: 3, Life: 0},
		{Sector: 64, Slot: 2, Data: 5, Quota: 2, Tries: 3, Life: 1 << 30},
		{Sector: 64, Slot: 33, Data: 5, Quota: 2, Tries: 3, Life: 1000},
		{Sector: 64, Slot: 2, Data: 129, Quota: 2, Tries: 3, Life: 1000},
	} {
		f := flashOf(t, max(1, 2+2*g.Slot+g.Data), max(1, g.Sector))
		checkNoDrive(t, "invalid geometry", f, g, api.ErrArg)
		checkNoDrive(t, "invalid geometry and another size", flashOf(t, 3, 3), g, api.ErrArg)
	}
	checkNoDrive(t, "a flash that New did not return", &flash.Flash{}, api.Geometry{}, api.ErrArg)
}

// P9.1: a flash of another size than the geometry's, even if it has as many words.
func TestNewWithOtherSize(t *testing.T) {
	for _, c := range []struct{ sectors, words int }{
		{sectors - 1, long}, {sectors + 1, long}, {sectors, long - 1}, {sectors, long + 1}, {sectors - 1, long + 1}, {sectors + 1, long - 1},
		{long, sectors}, {2 * sectors, long / 2}, {sectors * long, 1}, {1, sectors * long}, {1, 1}, {512, 1024}, {sectors, 1024}, {512, long},
	} {
		if f, e := flash.New(c.sectors, c.words); e == api.OK {
			checkNoDrive(t, "another size", f, small(), api.ErrArg)
			checkWrites(t, "New", f, 0)
		}
	}
}

// P9.1: the errors of New do not depend on power.
func TestNewWithoutPower(t *testing.T) {
	f := flashOf(t, sectors, long)
	cut(t, f)
	d, e := New(f, small())
	if d == nil || e != api.OK || d.Geometry() != small() || !f.Gone() {
		t.Errorf("New without power is error %d", e)
	}
	checkNoDrive(t, "invalid geometry without power", f, api.Geometry{}, api.ErrArg)
	f.Power()
	checkRead(t, d, 0, 0, 1, []uint32{ones}, api.OK)
}

// P9.1 to P9.3: a nil drive, before all other errors.
func TestNil(t *testing.T) {
	var d *Drive
	if d.Geometry() != (api.Geometry{}) {
		t.Errorf("the geometry of a nil drive is %+v", d.Geometry())
	}
	for _, n := range append(odd(), 0, 1) {
		checkRead(t, d, n, 0, 0, nil, api.ErrNil)
		checkRead(t, d, 0, n, 1, nil, api.ErrNil)
		checkRead(t, d, 0, 0, n, nil, api.ErrNil)
		check(t, "Write", d.Write(n, 0, nil), api.ErrNil)
		check(t, "Write", d.Write(0, n, []uint32{1}), api.ErrNil)
		checkBlank(t, d, n, 0, false, api.ErrNil)
		checkBlank(t, d, 0, n, false, api.ErrNil)
		check(t, "Clean", d.Clean(n), api.ErrNil)
		check(t, "Fresh", d.Fresh(n, nil), api.ErrNil)
		check(t, "Fresh", d.Fresh(n, make([]uint32, 2000)), api.ErrNil)
	}
}

// checkRuns tries all functions with runs that exist and that do not; the words are those of a blank flash, so that no write is performed.
func checkRuns(t *testing.T, d *Drive, f *flash.Flash, exists api.Errno) {
	t.Helper()
	want := func(s, at, n int) api.Errno {
		if !within(s, at, n) {
			return api.ErrRange
		}
		return exists
	}
	checkUnchanged(t, "runs", f, func() {
		for _, s := range append(odd(), 0, 1, 5, sectors-1, sectors, sectors+1, 512, sectors*long) {
			for _, at := range append(odd(), 0, 1, 31, long-1, long, long+1, 2*long) {
				for _, n := range append(odd(), 0, 1, 33, long-1, long, long+1, 2*long) {
					e := want(s, at, n)
					var w []uint32
					if e == api.OK {
						w = slices.Repeat([]uint32{ones}, n)
					}
					checkRead(t, d, s, at, n, w, e)
					if n >= 0 && n <= 2*long {
						check(t, "Write", d.Write(s, at, slices.Repeat([]uint32{ones}, n)), e)
						check(t, "Fresh", d.Fresh(s, slices.Repeat([]uint32{ones}, n)), want(s, 0, n))
					}
				}
				e := want(s, at, 0) // the run to the end of the sector exists if an empty one does
				checkBlank(t, d, s, at, e == api.OK, e)
			}
			check(t, "Clean", d.Clean(s), want(s, 0, long))
		}
	})
}

// P9.2, P9.3: with power.
func TestRuns(t *testing.T) {
	d, f := made(t)
	checkRuns(t, d, f, api.OK)
}

// P9.2, P9.3: without power, also if the run is empty, but behind ErrRange.
func TestRunsWithoutPower(t *testing.T) {
	d, f := made(t)
	cut(t, f)
	checkRuns(t, d, f, api.ErrPower)
}

// P9.2: every run of a sector, whose length and start are any.
func TestRead(t *testing.T) {
	d, f := made(t)
	all := make([]uint32, long)
	for i := range all {
		all[i] = uint32(i) * 0x01010101
	}
	for _, s := range []int{0, 3, sectors - 1} {
		put(t, f, s, 0, all...)
		for at := range long + 1 {
			for n := range long + 2 {
				if at+n > long {
					checkRead(t, d, s, at, n, nil, api.ErrRange)
				} else {
					checkRead(t, d, s, at, n, all[at:at+n], api.OK)
				}
			}
		}
	}
	checkRead(t, d, 2, 0, long, slices.Repeat([]uint32{ones}, long), api.OK)
	checkRead(t, d, 4, 0, long, slices.Repeat([]uint32{ones}, long), api.OK)
}

// P9.2: each sector has words of its own.
func TestEverySector(t *testing.T) {
	d, f := made(t)
	want := map[int][]uint32{}
	for s := range sectors {
		check(t, "Write", d.Write(s, 0, []uint32{uint32(s), 7}), api.OK)
		check(t, "Write", d.Write(s, long-1, []uint32{uint32(s) + 100}), api.OK)
		want[s] = slices.Repeat([]uint32{ones}, long)
		want[s][0], want[s][1], want[s][long-1] = uint32(s), 7, uint32(s)+100
		checkWords(t, "Write", f, want)
	}
	for s := range sectors {
		checkRead(t, d, s, 0, long, want[s], api.OK)
	}
}

// R3: what Read returns is the caller's.
func TestReadIsNew(t *testing.T) {
	d, f := made(t)
	put(t, f, 1, 0, 5, 6, 7)
	w, _ := d.Read(1, 0, 2)
	k, _ := d.Read(1, 0, 2)
	w[0] = 9
	w = append(w, 8)
	if !slices.Equal(k, []uint32{5, 6}) {
		t.Errorf("another result of Read has become %x", k)
	}
	checkRead(t, d, 1, 0, 3, []uint32{5, 6, 7}, api.OK)
	put(t, f, 1, 0, 0, 0)
	if !slices.Equal(k, []uint32{5, 6}) {
		t.Errorf("a result of Read has become %x", k)
	}
}

// P9.2: only words that differ are programmed, wherever they are.
func TestWriteSkips(t *testing.T) {
	for differ := range 32 {
		d, f := made(t)
		was, w := []uint32{15, 15, 15, 15, 15}, []uint32{15, 15, 15, 15, 15}
		n := 0
		for i := range w {
			if differ>>i&1 == 1 {
				w[i] = 15 - 1<<(i%4)
				n++
			}
		}
		put(t, f, 4, 10, was...)
		check(t, "Write", d.Write(4, 10, w), api.OK)
		checkWrites(t, "Write", f, len(was)+n)
		checkRead(t, d, 4, 9, 7, slices.Concat([]uint32{ones}, w, []uint32{ones}), api.OK)
		checkUnchanged(t, "the same words again", f, func() {
			check(t, "Write", d.Write(4, 10, w), api.OK)
		})
	}
}

// P9.2: an empty run, which exists even at the end of a sector, is written without a write.
func TestWriteOfNothing(t *testing.T) {
	d, f := made(t)
	put(t, f, 2, 0, 1, 2)
	checkUnchanged(t, "Write of nothing", f, func() {
		for _, at := range []int{0, 1, long} {
			check(t, "Write of nil", d.Write(2, at, nil), api.OK)
			check(t, "Write of no words", d.Write(2, at, []uint32{}), api.OK)
			checkRead(t, d, 2, at, 0, nil, api.OK)
		}
	})
}

// P9.2, P9.4: one word that cannot be programmed, in any position, rejects all of them.
func TestWriteOfBits(t *testing.T) {
	for i := range 5 {
		for bit := range 32 {
			d, f := made(t)
			was := slices.Repeat([]uint32{ones}, 5)
			was[i] &^= 1 << bit
			put(t, f, 4, 10, was...)
			w := make([]uint32, 5)
			w[i] = 1 << bit
			f.Arm(0, nil)
			checkUnchanged(t, "a bit that would have to be set", f, func() {
				check(t, "Write", d.Write(4, 10, w), api.ErrBits)
				check(t, "Write", d.Write(4, 10, slices.Repeat([]uint32{ones}, 5)), api.ErrBits)
			})
			f.Arm(-1, nil)
			w[i] = 0
			check(t, "Write", d.Write(4, 10, w), api.OK)
			checkRead(t, d, 4, 10, 5, w, api.OK)
		}
	}
}

// P9.2: ErrRange and ErrPower come before ErrBits.
func TestWriteOfBitsAndMore(t *testing.T) {
	d, f := made(t)
	put(t, f, 4, 0, slices.Repeat([]uint32{0}, long)...)
	check(t, "Write", d.Write(4, long-1, []uint32{1, 1}), api.ErrRange)
	check(t, "Write", d.Write(4, -1, []uint32{1, 1}), api.ErrRange)
	check(t, "Write", d.Write(4, long-1, []uint32{1}), api.ErrBits)
	cut(t, f)
	check(t, "Write", d.Write(4, 0, []uint32{1}), api.ErrPower)
	check(t, "Write", d.Write(4, 0, make([]uint32, long+1)), api.ErrRange)
}

// P9.2: the words are programmed in order, and the first torn one ends the call.
func TestTornWrite(t *testing.T) {
	was, w := []uint32{15, 15, 15, 15, 15, 15}, []uint32{3, 15, 6, 0, 15, 9}
	order := []int{0, 2, 3, 5} // the words that differ
	for k, torn := range order {
		for mask := range uint32(16) {
			d, f := made(t)
			put(t, f, 7, 20, was...)
			f.Arm(k, []uint32{mask, 1, 2})
			check(t, "torn Write", d.Write(7, 20, w), api.ErrPower)
			checkWrites(t, "torn Write", f, len(was)+k+1)
			left := slices.Clone(was)
			copy(left, w[:torn])
			left[torn] &^= mask &^ w[torn]
			checkWords(t, "torn Write", f, map[int][]uint32{7: slices.Concat(slices.Repeat([]uint32{ones}, 20), left)})
			checkUnchanged(t, "no power", f, func() {
				check(t, "Write", d.Write(7, 20, w), api.ErrPower)
				checkRead(t, d, 7, 20, 6, nil, api.ErrPower)
			})
			f.Power()
			check(t, "Write after Power", d.Write(7, 20, w), api.OK)
			checkRead(t, d, 7, 20, 6, w, api.OK)
		}
	}
	d, f := made(t)
	put(t, f, 7, 20, was...)
	f.Arm(len(order), nil)
	check(t, "Write behind which the fuse is", d.Write(7, 20, w), api.OK)
	check(t, "Write", d.Write(7, 20, []uint32{0}), api.ErrPower)
}

// R3: the words that are passed are neither changed, nor is their spare capacity, nor are they retained.
func TestWordsAreNotRetained(t *testing.T) {
	for n := range 6 {
		d, f := made(t)
		all := []uint32{1, 2, 4, 8, 16, 32, 64, 128}
		w := slices.Clone(all)[:n:8]
		check(t, "Write", d.Write(1, 3, w), api.OK)
		check(t, "Fresh", d.Fresh(2, w), api.OK)
		check(t, "Write of other words", d.Write(1, 3, make([]uint32, n)), api.OK)
		if !slices.Equal(w[:8], all) {
			t.Errorf("the words have become %x", w[:8])
		}
		clear(w[:8])
		checkWords(t, "words that were changed", f, map[int][]uint32{1: slices.Concat([]uint32{ones, ones, ones}, make([]uint32, n)), 2: all[:n]})
	}
}

// P9.3: one bit that is 0 anywhere in the sector, and other sectors that are full of them.
func TestBlank(t *testing.T) {
	for i := range long {
		d, f := made(t)
		put(t, f, 4, 0, make([]uint32, long)...)
		put(t, f, 6, 0, make([]uint32, long)...)
		put(t, f, 5, i, ones&^(1<<(i%32)))
		for at := range long + 1 {
			checkUnchanged(t, "Blank", f, func() {
				checkBlank(t, d, 5, at, at > i, api.OK)
				checkBlank(t, d, 4, at, at == long, api.OK)
				checkBlank(t, d, 3, at, true, api.OK)
			})
		}
		checkBlank(t, d, 5, long+1, false, api.ErrRange)
		checkBlank(t, d, 5, -1, false, api.ErrRange)
		cut(t, f)
		checkBlank(t, d, 5, 0, false, api.ErrPower)
		checkBlank(t, d, 3, 0, false, api.ErrPower)
		checkBlank(t, d, 3, long, false, api.ErrPower)
	}
}

// P9.3: a blank sector is not erased.
func TestCleanOfBlank(t *testing.T) {
	d, f := made(t)
	put(t, f, 4, 0, make([]uint32, long)...)
	f.Arm(0, nil)
	checkUnchanged(t, "Clean of a blank sector", f, func() {
		check(t, "Clean", d.Clean(3), api.OK)
		check(t, "Clean", d.Clean(5), api.OK)
	})
}

// P9.3, P9.4: one bit that is 0 anywhere is enough; a second Clean performs no write, and other sectors are unchanged.
func TestClean(t *testing.T) {
	for i := range long {
		d, f := made(t)
		put(t, f, 4, 0, 1, 2)
		put(t, f, 6, 0, 3)
		put(t, f, 5, i, ones&^(1<<(i%32)))
		for range 2 {
			check(t, "Clean", d.Clean(5), api.OK)
			checkWrites(t, "Clean", f, 5)
			checkWords(t, "Clean", f, map[int][]uint32{4: {1, 2}, 6: {3}})
		}
		if f.Wear(5) != 1 || f.Wear(4) != 0 || f.Wear(6) != 0 {
			t.Errorf("erased %d, %d and %d times", f.Wear(4), f.Wear(5), f.Wear(6))
		}
	}
}

// P9.3: a torn erasure is the result of Clean.
func TestTornClean(t *testing.T) {
	d, f := made(t)
	put(t, f, 5, 0, 1, 2, 4)
	f.Arm(0, []uint32{2, 8})
	check(t, "torn Clean", d.Clean(5), api.ErrPower)
	checkWords(t, "torn Clean", f, map[int][]uint32{5: {3, 10, 6}})
	checkUnchanged(t, "Clean without power", f, func() {
		check(t, "Clean", d.Clean(5), api.ErrPower)
		check(t, "Clean of a blank sector", d.Clean(6), api.ErrPower)
		check(t, "Clean of no sector", d.Clean(sectors), api.ErrRange)
	})
	f.Power()
	check(t, "Clean after Power", d.Clean(5), api.OK)
	checkWords(t, "Clean after Power", f, nil)
}

// P9.3, P9.4: the words of Fresh, from none to a full sector, over words that could not all be programmed.
func TestFresh(t *testing.T) {
	for n := range long + 1 {
		d, f := made(t)
		put(t, f, 4, 0, 1, 2)
		put(t, f, 5, 0, make([]uint32, long)...)
		put(t, f, 6, 0, 3)
		w := make([]uint32, n)
		for i := range w {
			w[i] = uint32(i + 1)
		}
		check(t, "Fresh", d.Fresh(5, w), api.OK)
		checkWords(t, "Fresh", f, map[int][]uint32{4: {1, 2}, 5: w, 6: {3}})
		checkWrites(t, "Fresh", f, 3+long+1+n)
		checkBlank(t, d, 5, n, true, api.OK)
		if f.Wear(5) != 1 {
			t.Errorf("erased %d times", f.Wear(5))
		}
	}
}

// P9.3: Fresh erases a sector that is not blank, even if its words could be programmed or are there already, and no other one; words that are blank are skipped.
func TestFreshErases(t *testing.T) {
	d, f := made(t)
	check(t, "Fresh", d.Fresh(5, []uint32{7, ones, 6}), api.OK)
	checkWrites(t, "Fresh of a blank sector", f, 2)
	check(t, "Fresh of the same", d.Fresh(5, []uint32{7, ones, 6}), api.OK)
	checkWrites(t, "Fresh of the same", f, 5)
	check(t, "Fresh of less", d.Fresh(5, []uint32{3}), api.OK)
	checkWrites(t, "Fresh of less", f, 7)
	checkWords(t, "Fresh", f, map[int][]uint32{5: {3}})
	check(t, "Fresh of nothing", d.Fresh(5, nil), api.OK)
	checkWrites(t, "Fresh of nothing", f, 8)
	checkWords(t, "Fresh of nothing", f, nil)
	checkUnchanged(t, "Fresh of nothing again", f, func() {
		check(t, "Fresh", d.Fresh(5, nil), api.OK)
		check(t, "Fresh", d.Fresh(5, []uint32{ones, ones}), api.OK)
	})
	if f.Wear(5) != 3 {
		t.Errorf("erased %d times", f.Wear(5))
	}
}

// P9.3, P9.4: words that do not fit, or no sector; nothing is erased. ErrRange comes before ErrPower.
func TestFreshOfTooMany(t *testing.T) {
	d, f := made(t)
	put(t, f, 5, 0, 1, 2)
	put(t, f, 6, 0, 3)
	reject := func() {
		for _, n := range []int{long + 1, 2 * long, 1024, 5000} {
			check(t, "Fresh", d.Fresh(5, make([]uint32, n)), api.ErrRange)
			check(t, "Fresh of blank words", d.Fresh(3, slices.Repeat([]uint32{ones}, n)), api.ErrRange)
		}
		for _, s := range append(odd(), sectors, sectors+1) {
			check(t, "Fresh of no sector", d.Fresh(s, []uint32{1}), api.ErrRange)
			check(t, "Clean of no sector", d.Clean(s), api.ErrRange)
		}
	}
	checkUnchanged(t, "too many words", f, reject)
	cut(t, f)
	checkUnchanged(t, "too many words and no power", f, reject)
	checkUnchanged(t, "no power", f, func() {
		check(t, "Fresh", d.Fresh(5, make([]uint32, long)), api.ErrPower)
		check(t, "Fresh", d.Fresh(5, nil), api.ErrPower)
		check(t, "Fresh of a blank sector", d.Fresh(3, nil), api.ErrPower)
	})
}

// P9.3: a torn erasure, or a torn word behind it, ends Fresh; the call that is repeated with power has its whole effect.
func TestTornFresh(t *testing.T) {
	w := []uint32{3, ones, 6}
	for k, left := range [][]uint32{
		{1 | 8, 2 | 4, 4 | 8, ones}, // the erasure, with a mask for the words 0, 2 and one for word 1
		{ones &^ (8 &^ 3)},
		{3, ones, ones &^ (8 &^ 6)},
	} {
		d, f := made(t)
		put(t, f, 5, 0, 1, 2, 4)
		f.Arm(k, []uint32{8, 4})
		check(t, "torn Fresh", d.Fresh(5, w), api.ErrPower)
		checkWrites(t, "torn Fresh", f, 3+k+1)
		checkWords(t, "torn Fresh", f, map[int][]uint32{5: left})
		f.Power()
		check(t, "Fresh after Power", d.Fresh(5, w), api.OK)
		checkWords(t, "Fresh after Power", f, map[int][]uint32{5: w})
	}
}

// A drive caches nothing: what others do to its flash is seen, and what it does is seen by others.
func TestNothingIsCached(t *testing.T) {
	f := flashOf(t, sectors, long)
	a, _ := New(f, small())
	b, _ := New(f, small())
	check(t, "Write", a.Write(2, 0, []uint32{15}), api.OK)
	checkRead(t, b, 2, 0, 1, []uint32{15}, api.OK)
	check(t, "Write of the other", b.Write(2, 0, []uint32{7}), api.OK)
	checkRead(t, a, 2, 0, 1, []uint32{7}, api.OK)
	check(t, "Write", a.Write(2, 0, []uint32{15}), api.ErrBits)
	check(t, "Erase", f.Erase(2), api.OK)
	checkBlank(t, a, 2, 0, true, api.OK)
	check(t, "Program", f.Program(2*long, 9), api.OK)
	checkUnchanged(t, "the same word", f, func() {
		check(t, "Write", a.Write(2, 0, []uint32{9}), api.OK)
	})
	check(t, "Clean", b.Clean(2), api.OK)
	checkRead(t, a, 2, 0, 1, []uint32{ones}, api.OK)

	c := f.Copy()
	check(t, "Write", a.Write(2, 0, []uint32{1}), api.OK)
	if c.Words()[2*long] != ones || f.Words()[2*long] != 1 {
		t.Error("a drive does not write to its flash, or writes to a copy of it")
	}
}

// model is what the chapter says of the flash below a drive, without power failures.
type model struct {
	words  [sectors][long]uint32
	writes int
	wear   [sectors]int
}

func (m *model) write(s, at int, w []uint32) api.Errno {
	if !within(s, at, len(w)) {
		return api.ErrRange
	}
	for i, x := range w {
		if m.words[s][at+i]|x != m.words[s][at+i] {
			return api.ErrBits
		}
	}
	for i, x := range w {
		if m.words[s][at+i] != x {
			m.words[s][at+i] = x
			m.writes++
		}
	}
	return api.OK
}

func (m *model) clean(s int) api.Errno {
	if !within(s, 0, 0) {
		return api.ErrRange
	}
	bare := [long]uint32(slices.Repeat([]uint32{ones}, long))
	if m.words[s] != bare {
		m.words[s] = bare
		m.writes++
		m.wear[s]++
	}
	return api.OK
}

func (m *model) fresh(s int, w []uint32) api.Errno {
	if !within(s, 0, len(w)) {
		return api.ErrRange
	}
	m.clean(s)
	return m.write(s, 0, w)
}

// randomly does one operation on both and checks that the answers are the same.
func randomly(t *testing.T, r *rand.Rand, d *Drive, m *model) {
	t.Helper()
	s, at := r.Intn(sectors+2)-1, r.Intn(long+3)-1
	w := make([]uint32, r.Intn(max(2, long-at+3)))
	for i := range w {
		w[i] = r.Uint32() | r.Uint32()
		if within(s, at+i, 1) && r.Intn(200) > 0 {
			w[i] &= m.words[s][at+i]
		}
		if within(s, at+i, 1) && r.Intn(2) == 0 {
			w[i] = m.words[s][at+i] // a word to skip
		}
	}
	switch r.Intn(10) {
	case 0:
		check(t, "Clean", d.Clean(s), m.clean(s))
	case 1:
		check(t, "Fresh", d.Fresh(s, w), m.fresh(s, w))
	default:
		check(t, "Write", d.Write(s, at, w), m.write(s, at, w))
	}
	if within(s, at, len(w)) {
		checkRead(t, d, s, at, len(w), m.words[s][at:at+len(w)], api.OK)
		blank := !slices.ContainsFunc(m.words[s][at:], func(x uint32) bool { return x != ones })
		checkBlank(t, d, s, at, blank, api.OK)
	}
}

// P9.2 to P9.4, R4: long runs against the model; everything but the run is unchanged.
func TestAgainstModel(t *testing.T) {
	r := rand.New(rand.NewSource(9))
	for range 30 {
		d, f := made(t)
		m := &model{}
		for s := range sectors {
			m.words[s] = [long]uint32(slices.Repeat([]uint32{ones}, long))
		}
		for range 300 {
			randomly(t, r, d, m)
			checkWrites(t, "run", f, m.writes)
			want := map[int][]uint32{}
			for s := range sectors {
				want[s] = m.words[s][:]
				if f.Wear(s) != m.wear[s] {
					t.Errorf("sector %d was erased %d times, not %d", s, f.Wear(s), m.wear[s])
				}
			}
			checkWords(t, "run", f, want)
			if t.Failed() {
				t.FailNow()
			}
		}
	}
}

// P9.4: a call that fails because of power leaves all other sectors, and the words of the sector before the run and behind it, as they were.
func TestTornCallsChangeOnlyTheirRun(t *testing.T) {
	r := rand.New(rand.NewSource(10))
	for range 500 {
		d, f := made(t)
		for s := range sectors {
			put(t, f, s, 0, r.Uint32(), r.Uint32(), r.Uint32(), r.Uint32())
		}
		was := f.Words()
		s, at, n := r.Intn(sectors), r.Intn(4), 1+r.Intn(4)
		w := make([]uint32, n)
		f.Arm(r.Intn(n+1), []uint32{r.Uint32(), r.Uint32()})
		first, last := s*long, (s+1)*long
		if r.Intn(2) == 0 {
			d.Fresh(s, w)
		} else {
			d.Write(s, at, w)
			first, last = s*long+at, s*long+at+n
		}
		for a, x := range f.Words() {
			if (a < first || a >= last) && x != was[a] {
				t.Errorf("word %d became %x from %x", a, x, was[a])
			}
		}
	}
}
