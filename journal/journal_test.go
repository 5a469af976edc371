package journal

import (
	"math"
	"math/rand"
	"slices"
	"testing"

	"instar/api"
	"instar/drive"
	"instar/flash"
)

const ones = math.MaxUint32

// long is the number of words per sector that most tests use, and life the last sequence number.
const (
	long = 64
	life = 1000
)

func geometry(sector, life int) api.Geometry {
	return api.Geometry{Sector: sector, Slot: 2, Data: 5, Quota: 2, Tries: 3, Life: life}
}

// driven returns a drive for a flash that has the sectors of geometry.
func driven(t *testing.T, f *flash.Flash, life int) *drive.Drive {
	t.Helper()
	_, words := f.Size()
	d, e := drive.New(f, geometry(words, life))
	if d == nil || e != api.OK {
		t.Fatalf("drive.New is error %d", e)
	}
	return d
}

// blankFlash returns a flash with all bits 1.
func blankFlash(t *testing.T, words int) *flash.Flash {
	t.Helper()
	f, e := flash.New(11, words)
	if f == nil || e != api.OK {
		t.Fatalf("flash.New is error %d", e)
	}
	return f
}

// put programs words of the flash from index at of sector s on.
func put(t *testing.T, f *flash.Flash, s, at int, w ...uint32) {
	t.Helper()
	_, words := f.Size()
	for i, x := range w {
		if e := f.Program(s*words+at+i, x); e != api.OK {
			t.Fatalf("Program is error %d", e)
		}
	}
}

// cut ends the power supply with a torn write, to another sector than the journal's, that changes nothing.
func cut(t *testing.T, f *flash.Flash) {
	t.Helper()
	_, words := f.Size()
	f.Arm(0, nil)
	check(t, "torn Program", f.Program(5*words, f.Words()[5*words]), api.ErrPower)
}

func check(t *testing.T, what string, got, want api.Errno) {
	t.Helper()
	if got != want {
		t.Errorf("%s: error %d, not %d", what, got, want)
	}
}

// sum counts the zero bits of words, bit by bit.
func sum(w []uint32) uint32 {
	n := uint32(0)
	for _, x := range w {
		for b := range 32 {
			n += ^x >> b & 1
		}
	}
	return n
}

// twin returns the word with n in its lower half and the complement of n in its upper half.
func twin(n int) uint32 { return uint32(65536*(65535-n) + n) }

// laid returns the words of a frame: of kind 1 (Whole) or 2 (Change).
func laid(kind, seq int, load ...uint32) []uint32 {
	w := append([]uint32{twin(len(load)), uint32(kind<<30 + seq)}, load...)
	return append(w, sum(w))
}

// load returns n words that differ from those for other numbers.
func load(n int, from uint32) []uint32 {
	l := make([]uint32, n)
	for i := range l {
		l[i] = from + uint32(i)*0x01010101
	}
	return l
}

// told is what the sectors of a journal say: its contents, and the place behind them.
type told struct {
	seq          int
	whole        []uint32
	changes      [][]uint32
	active, tail int
	torn         bool
}

func sameContents(a, b told) bool {
	return a.seq == b.seq && slices.Equal(a.whole, b.whole) && slices.EqualFunc(a.changes, b.changes, slices.Equal)
}

func same(a, b told) bool {
	return sameContents(a, b) && a.active == b.active && a.tail == b.tail && a.torn == b.torn
}

// toldOf returns what a journal says of itself.
func toldOf(j *Journal) told {
	s, at := j.Place()
	return told{j.Seq(), j.Whole(), j.Changes(), s, at, j.Torn()}
}

func checkTold(t *testing.T, what string, j *Journal, want told) {
	t.Helper()
	if got := toldOf(j); !same(got, want) {
		t.Errorf("%s: the journal is %+v, not %+v", what, got, want)
	}
}

// checkOpen opens the journal, checks what it says, and returns it.
func checkOpen(t *testing.T, what string, d *drive.Drive, want told) *Journal {
	t.Helper()
	j, e := Open(d)
	if j == nil || e != api.OK {
		t.Fatalf("%s: Open is %t, error %d", what, j != nil, e)
	}
	checkTold(t, what, j, want)
	return j
}

func checkNotOpened(t *testing.T, what string, d *drive.Drive, want api.Errno) {
	t.Helper()
	if j, e := Open(d); j != nil || e != want {
		t.Errorf("%s: Open is %t, error %d, not %d", what, j != nil, e, want)
	}
}

// checkUnchanged calls do and checks that it performs no write and changes no word.
func checkUnchanged(t *testing.T, what string, f *flash.Flash, do func()) {
	t.Helper()
	words, writes, gone := f.Words(), f.Writes(), f.Gone()
	do()
	if f.Writes() != writes || !slices.Equal(f.Words(), words) || f.Gone() != gone {
		t.Errorf("%s: the flash has changed, with %d writes", what, f.Writes()-writes)
	}
}

// begun returns a new journal on a blank flash.
func begun(t *testing.T, words, life int, whole ...uint32) (*Journal, *flash.Flash) {
	t.Helper()
	f := blankFlash(t, words)
	j, e := New(driven(t, f, life), whole)
	if j == nil || e != api.OK {
		t.Fatalf("New is %t, error %d", j != nil, e)
	}
	return j, f
}

// pair is the words of the two sectors of a journal.
type pair [2][]uint32

func sectorsOf(f *flash.Flash) pair {
	w := f.Words()
	_, n := f.Size()
	return pair{w[:n], w[n : 2*n]}
}

// frameAt returns the kind, the sequence number and the load of the frame with which w begins, or kind 0.
func frameAt(w []uint32) (int, int, []uint32) {
	for n := 1; n <= 56 && n+3 <= len(w); n++ {
		kind, seq, l := int(w[1]>>30), int(w[1]<<2>>2), w[2:2+n]
		if w[0] == twin(n) && (kind == 1 || kind == 2) && seq > 0 && slices.Equal(laid(kind, seq, l...), w[:n+3]) {
			return kind, seq, l
		}
	}
	return 0, 0, nil
}

// frames returns what the frames of a sector say; without any, seq is 0.
func frames(w []uint32) told {
	l := told{}
	for {
		kind, seq, load := frameAt(w[l.tail:])
		if kind == 0 || l.seq == 0 && kind != 1 || l.seq > 0 && seq != l.seq+1 {
			l.torn = slices.ContainsFunc(w[l.tail:], func(x uint32) bool { return x != ones })
			return l
		}
		if kind == 1 {
			l.whole, l.changes = load, nil
		} else {
			l.changes = append(l.changes, load)
		}
		l.seq, l.tail = seq, l.tail+len(load)+3
	}
}

// tell returns what the sectors say; without frames, seq is 0.
func (m pair) tell() told {
	a, b := frames(m[0]), frames(m[1])
	b.active = 1
	if b.seq > a.seq {
		return b
	}
	return a
}

// write is one write of the flash: of a word, or the erasure of a sector.
type write struct {
	s, at int
	x     uint32
	erase bool
}

// words returns the writes of those words that differ from the ones that are there.
func (m pair) words(s, at int, w []uint32) []write {
	l := []write{}
	for i, x := range w {
		if m[s][at+i] != x {
			l = append(l, write{s, at + i, x, false})
		}
	}
	return l
}

// clean returns the erasure of a sector, unless it is blank.
func (m pair) clean(s int) []write {
	if slices.ContainsFunc(m[s], func(x uint32) bool { return x != ones }) {
		return []write{{s: s, erase: true}}
	}
	return nil
}

// fresh returns the writes that leave nothing but w in a sector.
func (m pair) fresh(s int, w []uint32) []write {
	l := m.clean(s)
	return append(l, m.after(l, len(l), nil).words(s, 0, w)...)
}

// after returns the sectors after the first n writes of l and, if there are masks, the torn one that follows.
func (m pair) after(l []write, n int, masks []uint32) pair {
	m = pair{slices.Clone(m[0]), slices.Clone(m[1])}
	for _, w := range l[:n] {
		m.take(w, []uint32{ones})
	}
	if len(masks) > 0 {
		m.take(l[n], masks)
	}
	return m
}

// take does a write with the effect that the masks allow: with masks of ones, the whole effect.
func (m pair) take(w write, masks []uint32) {
	if !w.erase {
		m[w.s][w.at] &= w.x | ^masks[0]
		return
	}
	for i := range m[w.s] {
		m[w.s][i] |= masks[i%len(masks)]
	}
}

// op is a call of Change (1), Put (2) or Mend (3).
type op struct {
	kind        int
	load, whole []uint32
}

func (o op) do(j *Journal) api.Errno {
	switch o.kind {
	case 1:
		return j.Change(o.load, o.whole)
	case 2:
		return j.Put(o.whole)
	}
	return j.Mend(o.whole)
}

// writes returns what the chapter says of a call: its writes, and its error without power failures.
func (m pair) writes(o op, life int) ([]write, api.Errno) {
	is := m.tell()
	bad := func(l []uint32) bool { return len(l) < 1 || len(l) > 56 }
	turned := m.fresh(1-is.active, laid(1, is.seq+1, o.whole...))
	switch {
	case bad(o.whole) || o.kind == 1 && bad(o.load):
		return nil, api.ErrArg
	case o.kind == 3 && (!is.torn || is.seq >= life):
		return nil, api.OK
	case is.seq >= life:
		return nil, api.ErrWorn
	case o.kind == 3:
		return turned, api.OK
	}
	w := laid(1, is.seq+1, o.whole...)
	if o.kind == 1 {
		w = laid(2, is.seq+1, o.load...)
	}
	if is.torn || is.tail+len(w) > len(m[0]) {
		return turned, api.OK
	}
	return m.words(is.active, is.tail, w), api.OK
}

// checkFlash checks the words of the journal, that the others are blank, and the number of writes.
func checkFlash(t *testing.T, what string, f *flash.Flash, m pair, writes int) {
	t.Helper()
	w := f.Words()
	n := len(m[0])
	for s := range 2 {
		if got := w[s*n : (s+1)*n]; !slices.Equal(got, m[s]) {
			t.Errorf("%s: sector %d is %x, not %x", what, s, got, m[s])
		}
	}
	if slices.ContainsFunc(w[2*n:], func(x uint32) bool { return x != ones }) {
		t.Errorf("%s: a sector of others has changed", what)
	}
	if f.Writes() != writes {
		t.Errorf("%s: %d writes, not %d", what, f.Writes(), writes)
	}
}

// checkDo does a call and checks its result, the flash, and the journal, also when it is opened again.
func checkDo(t *testing.T, what string, j *Journal, f *flash.Flash, o op, life int) {
	t.Helper()
	m, writes := sectorsOf(f), f.Writes()
	l, e := m.writes(o, life)
	check(t, what, o.do(j), e)
	m = m.after(l, len(l), nil)
	checkFlash(t, what, f, m, writes+len(l))
	checkTold(t, what, j, m.tell())
	checkOpen(t, what+", opened", driven(t, f, life), m.tell())
}

// The example of the chapter.
func TestExample(t *testing.T) {
	j, _ := begun(t, long, life, 5)
	check(t, "Change", j.Change([]uint32{7}, []uint32{6}), api.OK)
	checkTold(t, "Change", j, told{seq: 2, whole: []uint32{5}, changes: [][]uint32{{7}}, tail: 8})

	j, f := begun(t, long, life, 5)
	put(t, f, 0, 4, 0)
	j = checkOpen(t, "a torn tail", driven(t, f, life), told{seq: 1, whole: []uint32{5}, tail: 4, torn: true})
	check(t, "Change", j.Change([]uint32{7}, []uint32{6}), api.OK)
	checkTold(t, "Change with a torn tail", j, told{seq: 2, whole: []uint32{6}, active: 1, tail: 4})
}

// P11.1: loads of every length, on a blank flash and on one that is full.
func TestNew(t *testing.T) {
	for _, words := range []int{64, 65, 100, 1024} {
		for n := 1; n <= 56; n++ {
			f := blankFlash(t, words)
			full := n%3 > 0
			if full {
				put(t, f, 0, 0, make([]uint32, words)...)
				put(t, f, 1, 0, load(words, 9)...)
			}
			d, writes, whole := driven(t, f, life), f.Writes(), load(n, uint32(n))
			j, e := New(d, whole)
			if j == nil || e != api.OK {
				t.Fatalf("New with %d words is error %d", n, e)
			}
			want := told{seq: 1, whole: whole, tail: n + 3}
			checkTold(t, "New", j, want)
			checkOpen(t, "New, opened", d, want)
			if full {
				writes += 2
			}
			checkFlash(t, "New", f, pair{
				slices.Concat(laid(1, 1, whole...), slices.Repeat([]uint32{ones}, words-n-3)), slices.Repeat([]uint32{ones}, words),
			}, writes+n+3)
		}
	}
}

// P11.1: what was there, even a journal with greater numbers in sector 1, is gone.
func TestNewOverOther(t *testing.T) {
	f := blankFlash(t, long)
	put(t, f, 0, 0, laid(1, 8, 1, 2, 3)...)
	put(t, f, 1, 0, slices.Concat(laid(1, 900, 1), laid(2, 901, 2))...)
	d := driven(t, f, life)
	j, e := New(d, []uint32{5})
	check(t, "New", e, api.OK)
	want := told{seq: 1, whole: []uint32{5}, tail: 4}
	checkTold(t, "New", j, want)
	checkOpen(t, "New, opened", d, want)
}

// wrong returns lengths that no load may have.
func wrong() []int {
	return []int{0, 57, 58, 59, 60, 64, 65, 128, 255, 256, 257, 312, 65535, 65536, 65537, 65592}
}

func checkNotBegun(t *testing.T, what string, d *drive.Drive, whole []uint32, want api.Errno) {
	t.Helper()
	if j, e := New(d, whole); j != nil || e != want {
		t.Errorf("%s: New is %t, error %d, not %d", what, j != nil, e, want)
	}
}

// P11.1: ErrNil before ErrArg before ErrPower; nothing is written.
func TestNewErrors(t *testing.T) {
	f := blankFlash(t, long)
	put(t, f, 0, 0, 1, 2, 3)
	put(t, f, 1, 0, 1, 2, 3)
	d := driven(t, f, life)
	reject := func() {
		for _, n := range wrong() {
			checkNotBegun(t, "wrong length", nil, make([]uint32, n), api.ErrNil)
			checkNotBegun(t, "wrong length", d, make([]uint32, n), api.ErrArg)
		}
		checkNotBegun(t, "no load", d, nil, api.ErrArg)
		checkNotBegun(t, "no drive", nil, []uint32{1}, api.ErrNil)
	}
	checkUnchanged(t, "with power", f, reject)
	cut(t, f)
	checkUnchanged(t, "without power", f, func() {
		reject()
		checkNotBegun(t, "no power", d, []uint32{1}, api.ErrPower)
	})
}

// masks returns what a torn write may leave: nothing, everything, or some bits.
func masks() [][]uint32 {
	return [][]uint32{{0}, {ones}, {1}, {1 << 31}, {0x55555555}, {0xAAAA0000, 0xFFFF}, {0xFFFF, 0}, {0, 0, 0, ones}, {ones, ones, ones, ones, 0}}
}

// P11.1, R6: the writes of New come in order, and the first torn one ends it.
func TestTornNew(t *testing.T) {
	used := blankFlash(t, long)
	put(t, used, 0, 0, laid(1, 4, 1, 2, 3)...)
	put(t, used, 1, 0, laid(1, 5, 1)...)
	for _, start := range []*flash.Flash{blankFlash(t, long), used} {
		m := sectorsOf(start)
		l := m.clean(1)
		l = append(l, m.after(l, len(l), nil).fresh(0, laid(1, 1, 5, 6))...)
		for k := range l {
			for _, mask := range masks() {
				f := start.Copy()
				f.Arm(k, mask)
				d := driven(t, f, life)
				checkNotBegun(t, "torn", d, []uint32{5, 6}, api.ErrPower)
				checkFlash(t, "torn New", f, m.after(l, k, mask), start.Writes()+k+1)
				f.Power()
				j, e := New(d, []uint32{5, 6})
				check(t, "New after Power", e, api.OK)
				checkTold(t, "New after Power", j, told{seq: 1, whole: []uint32{5, 6}, tail: 5})
			}
		}
	}
}

// P11.1: what Open rejects.
func TestOpenErrors(t *testing.T) {
	checkNotOpened(t, "no drive", nil, api.ErrNil)
	for _, c := range []struct {
		what string
		a, b []uint32
	}{
		{"blank", nil, nil},
		{"zeros", make([]uint32, long), make([]uint32, long)},
		{"Change frames", laid(2, 1, 5), laid(2, 2, 5)},
		{"a Change frame before a Whole one", slices.Concat(laid(2, 1, 5), laid(1, 2, 5)), nil},
		{"a Whole frame not at the start", nil, append([]uint32{ones}, laid(1, 1, 5)...)},
		{"a frame cut off", laid(1, 1, 5)[:3], laid(1, 1, load(56, 1)...)[:58]},
		{"another kind", laid(3, 1, 5), laid(0, 1, 5)},
		{"number 0", laid(1, 0, 5), nil},
	} {
		f := blankFlash(t, long)
		put(t, f, 0, 0, c.a...)
		put(t, f, 1, 0, c.b...)
		put(t, f, 2, 0, laid(1, 1, 5)...) // no sector of a journal
		d := driven(t, f, life)
		checkUnchanged(t, c.what, f, func() { checkNotOpened(t, c.what, d, api.ErrNone) })
		cut(t, f)
		checkNotOpened(t, c.what+" without power", d, api.ErrPower)
	}
	_, f := begun(t, long, life, 5)
	cut(t, f)
	checkNotOpened(t, "no power", driven(t, f, life), api.ErrPower)
}

// P11.1: which frames a sector has, which sector is active, and where the tail is.
func TestOpen(t *testing.T) {
	full := slices.Concat(laid(1, 3, load(50, 1)...), laid(2, 4, load(8, 7)...))
	for _, c := range []struct {
		what string
		a, b []uint32
		want told
	}{
		{"one frame", laid(1, 7, 5), nil, told{seq: 7, whole: []uint32{5}, tail: 4}},
		{"only sector 1", nil, laid(1, 7, 5, 6), told{seq: 7, whole: []uint32{5, 6}, active: 1, tail: 5}},
		{"only sector 1, beside garbage", make([]uint32, long), laid(1, 7, 5), told{seq: 7, whole: []uint32{5}, active: 1, tail: 4}},
		{"sector 0 beside Change frames", laid(1, 1, 5), laid(2, 9, 5), told{seq: 1, whole: []uint32{5}, tail: 4}},
		{"equal", slices.Concat(laid(1, 3, 5), laid(2, 4, 6)), laid(1, 4, 7), told{seq: 4, whole: []uint32{5}, changes: [][]uint32{{6}}, tail: 8}},
		{"greater in sector 0", laid(1, 5, 5), laid(1, 4, 7), told{seq: 5, whole: []uint32{5}, tail: 4}},
		{"greater in sector 1", laid(1, 4, 5), laid(1, 5, 7), told{seq: 5, whole: []uint32{7}, active: 1, tail: 4}},
		{"the last number, not the first, is decisive", slices.Concat(laid(1, 3, 5), laid(2, 4, 6), laid(2, 5, 6)), laid(1, 4, 7),
			told{seq: 5, whole: []uint32{5}, changes: [][]uint32{{6}, {6}}, tail: 12}},
		{"a number that is invalid is not decisive", slices.Concat(laid(1, 3, 5), laid(2, 9, 6)), laid(1, 4, 7),
			told{seq: 4, whole: []uint32{7}, active: 1, tail: 4}},
		{"changes", slices.Concat(laid(1, 1, 5), laid(2, 2, 6, 7), laid(2, 3, 8)), nil,
			told{seq: 3, whole: []uint32{5}, changes: [][]uint32{{6, 7}, {8}}, tail: 13}},
		{"a Whole frame behind changes", slices.Concat(laid(1, 1, 5), laid(2, 2, 6), laid(1, 3, 8, 9), laid(2, 4, 10)), nil,
			told{seq: 4, whole: []uint32{8, 9}, changes: [][]uint32{{10}}, tail: 17}},
		{"a Whole frame at the end", slices.Concat(laid(1, 1, 5), laid(2, 2, 6), laid(1, 3, 8)), nil, told{seq: 3, whole: []uint32{8}, tail: 12}},
		{"the same number again", slices.Concat(laid(1, 4, 5), laid(2, 4, 6)), nil, told{seq: 4, whole: []uint32{5}, tail: 4, torn: true}},
		{"a number left out", slices.Concat(laid(1, 4, 5), laid(2, 6, 6)), nil, told{seq: 4, whole: []uint32{5}, tail: 4, torn: true}},
		{"a lower number", slices.Concat(laid(1, 4, 5), laid(1, 3, 6)), nil, told{seq: 4, whole: []uint32{5}, tail: 4, torn: true}},
		{"a greater number of a Whole frame", slices.Concat(laid(1, 4, 5), laid(1, 9, 6)), nil, told{seq: 4, whole: []uint32{5}, tail: 4, torn: true}},
		{"a frame behind a wrong number", slices.Concat(laid(1, 4, 5), laid(2, 6, 6), laid(2, 5, 7)), nil, told{seq: 4, whole: []uint32{5}, tail: 4, torn: true}},
		{"a frame behind a blank word", slices.Concat(laid(1, 4, 5), []uint32{ones}, laid(2, 5, 6)), nil, told{seq: 4, whole: []uint32{5}, tail: 4, torn: true}},
		{"a frame cut off", slices.Concat(laid(1, 4, 5), laid(2, 5, 6, 7)[:4]), nil, told{seq: 4, whole: []uint32{5}, tail: 4, torn: true}},
		{"one bit at the end", slices.Concat(laid(1, 4, 5), slices.Repeat([]uint32{ones}, long-5), []uint32{ones - 1}), nil,
			told{seq: 4, whole: []uint32{5}, tail: 4, torn: true}},
		{"garbage in the other sector", laid(1, 4, 5), []uint32{0, 1}, told{seq: 4, whole: []uint32{5}, tail: 4}},
		{"a full sector", full, laid(1, 2, 1), told{seq: 4, whole: load(50, 1), changes: [][]uint32{load(8, 7)}, tail: long}},
		{"a torn tail in the other sector", slices.Concat(laid(1, 4, 5), []uint32{0}), full, told{seq: 4, whole: []uint32{5}, tail: 4, torn: true}},
		{"the greatest number", slices.Concat(laid(1, 1<<30-2, 5), laid(2, 1<<30-1, 6)), nil,
			told{seq: 1<<30 - 1, whole: []uint32{5}, changes: [][]uint32{{6}}, tail: 8}},
		{"a number behind the greatest", slices.Concat(laid(1, 1<<30-1, 5), laid(2, 1, 6)), nil, told{seq: 1<<30 - 1, whole: []uint32{5}, tail: 4, torn: true}},
	} {
		f := blankFlash(t, long)
		put(t, f, 0, 0, c.a...)
		put(t, f, 1, 0, c.b...)
		put(t, f, 2, 0, laid(1, 5000, 5)...) // no sector of a journal
		d := driven(t, f, life)
		checkUnchanged(t, c.what, f, func() { checkOpen(t, c.what, d, c.want) })
	}
}

// P11.1: a frame that would reach over the end of the sector is none, even if the next sector continues it.
func TestOpenAtSectorEnd(t *testing.T) {
	f := blankFlash(t, long)
	w := slices.Concat(laid(1, 3, load(56, 1)...), laid(2, 4, 6, 7, 8)) // 59 + 6 words
	put(t, f, 0, 0, w[:long]...)
	put(t, f, 1, 0, w[long])
	checkOpen(t, "over the end", driven(t, f, life), told{seq: 3, whole: load(56, 1), tail: 59, torn: true})
}

// someWords returns frames that mostly follow each other, with now and then something else.
func someWords(r *rand.Rand, words int) []uint32 {
	w := []uint32{}
	seq := 1 + r.Intn(6)
	kind := 1
	for len(w) < words && r.Intn(8) > 0 {
		next := laid(kind, seq, load(1+r.Intn(6), r.Uint32())...)
		if r.Intn(12) == 0 {
			next[r.Intn(len(next))] |= 1 << r.Intn(32)
		}
		w = append(w, next...)
		kind = 2 - r.Intn(4)/3
		seq += 1 - r.Intn(15)/14 + r.Intn(15)/14
	}
	if r.Intn(4) == 0 {
		w = append(w, laid(2, seq, load(3, 1)...)[:1+r.Intn(5)]...)
	}
	if r.Intn(20) == 0 && len(w) > 1 {
		w = w[1:]
	}
	return w[:min(len(w), words)]
}

// P11.1, P11.2: against the definitions.
func TestOpenAgainstDefinition(t *testing.T) {
	r := rand.New(rand.NewSource(1))
	opened := 0
	for range 6000 {
		words := []int{64, 65, 90}[r.Intn(3)]
		f := blankFlash(t, words)
		put(t, f, 0, 0, someWords(r, words)...)
		put(t, f, 1, 0, someWords(r, words)...)
		d := driven(t, f, life)
		want := sectorsOf(f).tell()
		if want.seq == 0 {
			checkNotOpened(t, "any words", d, api.ErrNone)
			continue
		}
		checkOpen(t, "any words", d, want)
		opened++
	}
	if opened < 3000 || opened > 5900 {
		t.Errorf("%d of 6000 are journals", opened)
	}
}

// P11.2 to P11.4: a nil journal, before all other errors.
func TestNil(t *testing.T) {
	var j *Journal
	if got := toldOf(j); !same(got, told{}) {
		t.Errorf("a nil journal is %+v", got)
	}
	for _, n := range append(wrong(), 1, 56) {
		l := make([]uint32, n)
		check(t, "Change", j.Change(l, l), api.ErrNil)
		check(t, "Put", j.Put(l), api.ErrNil)
		check(t, "Mend", j.Mend(l), api.ErrNil)
	}
	check(t, "Change", j.Change(nil, nil), api.ErrNil)
	check(t, "Put", j.Put(nil), api.ErrNil)
	check(t, "Mend", j.Mend(nil), api.ErrNil)
}

// P11.2, R3: results are new memory, and arguments are neither changed nor retained.
func TestMemory(t *testing.T) {
	f := blankFlash(t, long)
	d := driven(t, f, life)
	room := []uint32{1, 2, 3, 4, 5, 6, 7, 8}
	j, e := New(d, room[0:2])
	check(t, "New", e, api.OK)
	check(t, "Change", j.Change(room[2:4], room[4:5]), api.OK)
	check(t, "Change", j.Change(room[5:7], room[4:5]), api.OK)
	if !slices.Equal(room, []uint32{1, 2, 3, 4, 5, 6, 7, 8}) {
		t.Errorf("the arguments have become %d", room)
	}
	clear(room)
	want := told{seq: 3, whole: []uint32{1, 2}, changes: [][]uint32{{3, 4}, {6, 7}}, tail: 15}
	checkTold(t, "after a change of the arguments", j, want)
	for _, k := range []*Journal{j, checkOpen(t, "opened", d, want)} {
		w, c := k.Whole(), k.Changes()
		_ = append(w, 9)
		_ = append(c[0], 9)
		w[0] = 9
		c[1][0] = 9
		c[0][1] = 9
		c[0], c[1] = c[1], nil
		checkTold(t, "after a change of the results", k, want)
	}
	c := j.Changes()
	check(t, "Change", j.Change([]uint32{8}, []uint32{9}), api.OK)
	check(t, "Put", j.Put([]uint32{10}), api.OK)
	if !slices.EqualFunc(c, want.changes, slices.Equal) {
		t.Errorf("an earlier result has become %d", c)
	}
	put := []uint32{11, 12}
	check(t, "Put", j.Put(put), api.OK)
	put[0] = 0
	checkTold(t, "Put", j, told{seq: 6, whole: []uint32{11, 12}, tail: 28})
}

// P11.2: what is asked of a journal performs no write, and needs no power.
func TestInspection(t *testing.T) {
	j, f := begun(t, long, life, 5)
	check(t, "Change", j.Change([]uint32{7, 8}, []uint32{6}), api.OK)
	want := told{seq: 2, whole: []uint32{5}, changes: [][]uint32{{7, 8}}, tail: 9}
	look := func() {
		for range 2 {
			checkTold(t, "inspection", j, want)
		}
	}
	checkUnchanged(t, "inspection", f, look)
	cut(t, f)
	checkUnchanged(t, "inspection without power", f, look)
	f.Power()
	checkDo(t, "Change after Power", j, f, op{1, []uint32{9}, []uint32{6}}, life)
}

// P11.3: the frame is written at the tail if it just fits, and the journal is turned over otherwise.
func TestFit(t *testing.T) {
	for n := 1; n <= 56; n++ {
		for k := 1; k <= 56; k++ {
			fits := n+3+k+3 <= long
			j, _ := begun(t, long, life, load(n, 1)...)
			check(t, "Change", j.Change(load(k, 2), load(57-k, 3)), api.OK)
			want := told{seq: 2, whole: load(n, 1), changes: [][]uint32{load(k, 2)}, tail: n + k + 6}
			if !fits {
				want = told{seq: 2, whole: load(57-k, 3), active: 1, tail: 60 - k}
			}
			checkTold(t, "Change", j, want)

			j, _ = begun(t, long, life, load(n, 1)...)
			check(t, "Put", j.Put(load(k, 2)), api.OK)
			want = told{seq: 2, whole: load(k, 2), tail: n + k + 6}
			if !fits {
				want = told{seq: 2, whole: load(k, 2), active: 1, tail: k + 3}
			}
			checkTold(t, "Put", j, want)
		}
	}
}

// P11.3: of Change, it is the length of the load that has to fit, not that of whole.
func TestFitOfLoadOnly(t *testing.T) {
	j, f := begun(t, long, life, 5)
	check(t, "Change with a long whole load", j.Change([]uint32{7}, load(56, 1)), api.OK)
	checkTold(t, "Change with a long whole load", j, told{seq: 2, whole: []uint32{5}, changes: [][]uint32{{7}}, tail: 8})
	check(t, "a long Change", j.Change(load(56, 1), []uint32{6}), api.OK)
	want := told{seq: 3, whole: []uint32{6}, active: 1, tail: 4}
	checkTold(t, "a long Change", j, want)
	checkOpen(t, "a long Change, opened", driven(t, f, life), want)
}

// P11.3, P11.4: the sector that is turned to is erased, even if it is full of anything; and both sectors are used in turn.
func TestTurn(t *testing.T) {
	j, f := begun(t, long, life, load(56, 1)...)
	put(t, f, 1, 0, make([]uint32, long)...)
	for i := range 5 {
		checkDo(t, "Put", j, f, op{2, nil, load(56, uint32(i))}, life)
		if s, at := j.Place(); s != 1-i%2 || at != 59 {
			t.Errorf("turn %d leads to sector %d, tail %d", i, s, at)
		}
	}
	if f.Wear(0) != 2 || f.Wear(1) != 3 {
		t.Errorf("erased %d and %d times", f.Wear(0), f.Wear(1))
	}
}

// worn returns a flash whose journal has that last number, with a torn tail or without.
func worn(t *testing.T, seq int, torn bool) *flash.Flash {
	t.Helper()
	f := blankFlash(t, long)
	put(t, f, 0, 0, laid(1, seq, 5)...)
	if torn {
		put(t, f, 0, 4, 1, 2)
	}
	return f
}

// P11.3, P11.4: ErrArg before ErrWorn, before the errors of the drive; a rejected call changes nothing.
func TestErrors(t *testing.T) {
	ok := []uint32{1}
	for _, torn := range []bool{false, true} {
		for _, seq := range []int{1, life - 1, life, life + 1, 1<<30 - 1} {
			f := worn(t, seq, torn)
			want := told{seq: seq, whole: []uint32{5}, tail: 4, torn: torn}
			j := checkOpen(t, "worn", driven(t, f, life), want)
			args := func() {
				for _, n := range wrong() {
					l := make([]uint32, n)
					check(t, "Change", j.Change(l, ok), api.ErrArg)
					check(t, "Change", j.Change(ok, l), api.ErrArg)
					check(t, "Change", j.Change(l, l), api.ErrArg)
					check(t, "Put", j.Put(l), api.ErrArg)
					check(t, "Mend", j.Mend(l), api.ErrArg)
				}
				check(t, "Put of nil", j.Put(nil), api.ErrArg)
				if seq >= life {
					check(t, "Change", j.Change(ok, ok), api.ErrWorn)
					check(t, "Put", j.Put(ok), api.ErrWorn)
				}
				if seq >= life || !torn {
					check(t, "Mend", j.Mend(ok), api.OK)
				}
				checkTold(t, "rejected", j, want)
			}
			checkUnchanged(t, "rejected", f, args)
			cut(t, f)
			checkUnchanged(t, "rejected without power", f, args)
			if seq < life {
				checkUnchanged(t, "without power", f, func() {
					for _, o := range []op{{1, ok, ok}, {2, nil, ok}} {
						check(t, "without power", o.do(j), api.ErrPower)
					}
					if torn {
						check(t, "Mend without power", j.Mend(ok), api.ErrPower)
					}
				})
			}
		}
	}
}

// P11.3: the number that is one less than Life is the last one that has a next one.
func TestLife(t *testing.T) {
	for _, last := range []int{1, 2, 3, 12, 40} {
		for _, kind := range []int{1, 2} {
			j, f := begun(t, long, last, 5)
			for i := 2; i <= last; i++ {
				checkDo(t, "before the last number", j, f, op{kind, load(4, 1), load(9, 2)}, last)
				if j.Seq() != i {
					t.Errorf("Seq is %d, not %d", j.Seq(), i)
				}
			}
			for range 2 {
				for _, o := range []op{{1, []uint32{1}, []uint32{2}}, {2, nil, []uint32{1}}, {3, nil, []uint32{1}}} {
					checkDo(t, "behind the last number", j, f, o, last)
				}
			}
			check(t, "Put", j.Put([]uint32{1}), api.ErrWorn)
			check(t, "Change", j.Change([]uint32{1}, []uint32{1}), api.ErrWorn)
		}
	}
	for _, torn := range []bool{false, true} {
		f := worn(t, 1<<30-2, torn)
		j, e := Open(driven(t, f, 1<<30-1))
		check(t, "Open", e, api.OK)
		checkDo(t, "the greatest number", j, f, op{1, []uint32{7}, []uint32{6}}, 1<<30-1)
		check(t, "behind the greatest number", j.Put([]uint32{1}), api.ErrWorn)
		if j.Seq() != 1<<30-1 {
			t.Errorf("Seq is %d", j.Seq())
		}
	}
}

// P11.4: with a torn tail the journal is turned over, once.
func TestMend(t *testing.T) {
	for _, other := range [][]uint32{nil, {0, 1}, laid(1, 3, 5), make([]uint32, long)} {
		for n := 1; n <= 56; n++ {
			f := worn(t, 7, true)
			put(t, f, 1, 0, other...)
			d := driven(t, f, life)
			j := checkOpen(t, "torn", d, told{seq: 7, whole: []uint32{5}, tail: 4, torn: true})
			check(t, "Mend", j.Mend(load(n, 3)), api.OK)
			want := told{seq: 8, whole: load(n, 3), active: 1, tail: n + 3}
			checkTold(t, "Mend", j, want)
			k := checkOpen(t, "Mend, opened", d, want)
			checkUnchanged(t, "Mend again", f, func() {
				check(t, "Mend again", j.Mend([]uint32{9}), api.OK)
				check(t, "Mend of an opened one", k.Mend([]uint32{9}), api.OK)
				checkTold(t, "Mend again", j, want)
			})
			checkDo(t, "Change behind Mend", j, f, op{1, []uint32{1}, []uint32{2}}, life)
		}
	}
}

// P11.4: up to Life; at Life a torn tail stays.
func TestMendAtLife(t *testing.T) {
	for _, seq := range []int{life - 2, life - 1, life, life + 1} {
		f := worn(t, seq, true)
		j, e := Open(driven(t, f, life))
		check(t, "Open", e, api.OK)
		checkDo(t, "Mend", j, f, op{3, nil, []uint32{6}}, life)
		if j.Torn() != (seq >= life) {
			t.Errorf("at number %d, Torn is %t", seq, j.Torn())
		}
	}
}

// starts returns flashes with journals in various states.
func starts(t *testing.T) []*flash.Flash {
	t.Helper()
	l := []*flash.Flash{}
	for _, c := range [][2][]uint32{
		{laid(1, 1, 5), nil},
		{slices.Concat(laid(1, 1, 5), laid(2, 2, 6, 7), laid(2, 3, 8)), nil},
		{laid(1, 4, 5), slices.Concat(laid(1, 1, 1), laid(2, 2, 2), laid(2, 3, 3))},
		{slices.Concat(laid(1, 1, 1), laid(2, 2, 2), laid(2, 3, 3)), slices.Concat(laid(1, 4, 5), laid(2, 5, 6))},
		{slices.Concat(laid(1, 3, load(50, 1)...), laid(2, 4, load(8, 7)...)), laid(1, 2, 1)},
		{slices.Concat(laid(1, 3, load(50, 1)...), laid(2, 4, load(8, 7)...)), slices.Concat(laid(1, 2, 1), make([]uint32, long-4))},
		{slices.Concat(laid(1, 3, load(40, 1)...), laid(2, 4, 8, 9)), laid(2, 2, 1)},
		{slices.Concat(laid(1, 4, 5), laid(2, 5, 6, 7)[:4]), slices.Concat(laid(1, 2, 1), laid(2, 3, 2))},
		{laid(1, 4, 5), slices.Concat(laid(1, 5, 1), laid(2, 6, 2)[:1])},
		{slices.Concat(laid(1, 1<<10-1, ones), laid(2, 1<<10, ones, 0)), slices.Concat(laid(1, 1<<10-3, 0), laid(1, 1<<10-2, ones))},
		{make([]uint32, long), slices.Concat(laid(1, 1<<29, 1), []uint32{0})},
	} {
		f := blankFlash(t, long)
		put(t, f, 0, 0, c[0]...)
		put(t, f, 1, 0, c[1]...)
		l = append(l, f)
	}
	return l
}

// ops returns calls with loads of various lengths.
func ops() []op {
	l := []op{}
	for _, w := range [][]uint32{{0}, {ones}, {5, 6, 7}, load(18, 1), load(56, 9), make([]uint32, 56), slices.Repeat([]uint32{ones}, 56)} {
		l = append(l, op{1, w, []uint32{9, 8}}, op{1, []uint32{7}, w}, op{2, nil, w}, op{3, nil, w})
	}
	return l
}

// P11.3, P11.4, R6: every call on every journal.
func TestOps(t *testing.T) {
	const last = 1<<30 - 1
	for _, start := range starts(t) {
		for _, o := range ops() {
			f := start.Copy()
			j, e := Open(driven(t, f, last))
			check(t, "Open", e, api.OK)
			checkDo(t, "a call", j, f, o, last)
			checkDo(t, "the call again", j, f, o, last)
		}
	}
}

// checkReturns calls all functions of a journal, for which nothing else is promised.
func checkReturns(j *Journal) {
	toldOf(j)
	for _, l := range [][]uint32{nil, {1}, make([]uint32, 56)} {
		j.Change(l, l)
		j.Put(l)
		j.Mend(l)
	}
	toldOf(j)
}

// checkTorn does a call of which write k is torn, and returns what the journal says when it is opened afterwards.
func checkTorn(t *testing.T, f *flash.Flash, o op, k int, mask []uint32, life int) told {
	t.Helper()
	m, writes := sectorsOf(f), f.Writes()
	l, _ := m.writes(o, life)
	before, left, after := m.tell(), m.after(l, k, mask), m.after(l, len(l), nil).tell()
	d := driven(t, f, life)
	j := checkOpen(t, "before", d, before)
	f.Arm(k, mask)
	check(t, "torn", o.do(j), api.ErrPower)
	checkFlash(t, "torn", f, left, writes+k+1)
	checkUnchanged(t, "no power", f, func() {
		checkReturns(j)
		checkNotOpened(t, "no power", d, api.ErrPower)
	})
	f.Power()
	now := toldOf(checkOpen(t, "torn, opened", d, left.tell()))
	if !sameContents(now, before) && !sameContents(now, after) {
		t.Errorf("write %d of %+v torn with %x: %+v is neither %+v nor %+v", k, o, mask, now, before, after)
	}
	return now
}

// P11.5, R6: each write of every call, torn in several ways, among them those in which the whole of the last write takes effect.
func TestTornOps(t *testing.T) {
	const last = 1<<30 - 1
	kept, done := 0, 0
	for _, start := range starts(t) {
		before := sectorsOf(start).tell()
		for _, o := range ops() {
			l, _ := sectorsOf(start).writes(o, last)
			for k := range l {
				for _, mask := range masks() {
					if sameContents(checkTorn(t, start.Copy(), o, k, mask, last), before) {
						kept++
					} else {
						done++
					}
					if t.Failed() {
						return
					}
				}
			}
		}
	}
	if kept < 1000 || done < 100 {
		t.Errorf("%d calls were undone and %d done", kept, done)
	}
}

// P11.5: after a torn call, Mend turns the journal over, also if it is torn itself again and again, and then has nothing to do.
func TestTornMends(t *testing.T) {
	r := rand.New(rand.NewSource(2))
	for range 3000 {
		f := starts(t)[r.Intn(11)].Copy()
		last := 1<<30 - 1
		o := ops()[r.Intn(len(ops()))]
		for range 1 + r.Intn(4) {
			l, _ := sectorsOf(f).writes(o, last)
			if len(l) > 0 {
				checkTorn(t, f, o, r.Intn(len(l)), masks()[r.Intn(9)], last)
			}
			o = op{3, nil, load(1+r.Intn(56), r.Uint32())}
		}
		checkMended(t, f, last)
		if t.Failed() {
			return
		}
	}
}

// checkMended opens and mends the journal, checks that this suffices, and returns the journal.
func checkMended(t *testing.T, f *flash.Flash, life int) *Journal {
	t.Helper()
	d := driven(t, f, life)
	j := checkOpen(t, "to be mended", d, sectorsOf(f).tell())
	worn := j.Seq() >= life
	checkDo(t, "Mend", j, f, op{3, nil, []uint32{1, 2}}, life)
	if j.Torn() && !worn {
		t.Error("the tail of a mended journal is torn")
	}
	k := checkOpen(t, "mended", d, toldOf(j))
	checkUnchanged(t, "mended", f, func() { check(t, "Mend again", k.Mend([]uint32{3}), api.OK) })
	return j
}

// anyMask returns masks for a torn write: most leave something between nothing and everything.
func anyMask(r *rand.Rand) []uint32 {
	m := make([]uint32, 1+r.Intn(5))
	for i := range m {
		m[i] = []uint32{0, ones, r.Uint32(), r.Uint32() & r.Uint32() & r.Uint32(), r.Uint32() | r.Uint32() | r.Uint32(), 1 << r.Intn(32)}[r.Intn(6)]
	}
	return m
}

func anyLoad(r *rand.Rand) []uint32 {
	n := []int{1, 2, 56, 57, 0, 1 + r.Intn(8), 1 + r.Intn(8), 1 + r.Intn(56)}[r.Intn(8)]
	l := make([]uint32, n)
	for i := range l {
		l[i] = []uint32{0, ones, r.Uint32(), uint32(r.Intn(9))}[r.Intn(4)]
	}
	return l
}

// P11.3 to P11.5, W2: long runs against the definitions, with power that fails at any time.
func TestLongRuns(t *testing.T) {
	r := rand.New(rand.NewSource(3))
	for range 60 {
		last := []int{5, 60, 1000}[r.Intn(3)]
		words := []int{64, 64, 67, 128, 1024}[r.Intn(5)]
		j, f := begun(t, words, last, 5)
		for range 100 {
			o := op{[]int{1, 1, 1, 2, 3}[r.Intn(5)], anyLoad(r), anyLoad(r)}
			l, _ := sectorsOf(f).writes(o, last)
			if len(l) > 0 && r.Intn(3) == 0 {
				checkTorn(t, f, o, r.Intn(len(l)), anyMask(r), last)
				j = checkOpen(t, "run", driven(t, f, last), sectorsOf(f).tell())
				if r.Intn(2) == 0 {
					j = checkMended(t, f, last)
				}
			} else {
				checkDo(t, "run", j, f, o, last)
			}
			if t.Failed() {
				return
			}
		}
	}
}

// A fuse behind the writes of a call does not concern it.
func TestFuseBehind(t *testing.T) {
	for _, start := range starts(t) {
		for _, o := range ops() {
			f := start.Copy()
			m := sectorsOf(f)
			l, _ := m.writes(o, 1<<30-1)
			j, e := Open(driven(t, f, 1<<30-1))
			check(t, "Open", e, api.OK)
			f.Arm(len(l), []uint32{ones})
			check(t, "a call", o.do(j), api.OK)
			checkTold(t, "a call", j, m.after(l, len(l), nil).tell())
		}
	}
}
