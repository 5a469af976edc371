package pen

import (
	"bytes"
	"encoding/binary"
	"math"
	"math/big"
	"strings"
	"testing"

	"instar/api"
)

// written returns what a new Pen has after the given calls.
func written(t *testing.T, calls ...func(p *Pen)) string {
	t.Helper()
	p := New()
	for _, call := range calls {
		call(p)
	}
	b, e := p.Done()
	if e != api.OK {
		t.Errorf("Done is %d, not OK", e)
	}
	return string(b)
}

// counts have their encodings beside them.
var counts = []struct {
	n int
	b string
}{
	{0, "\x00"},
	{1, "\x01"},
	{2, "\x02"},
	{127, "\x7f"},
	{128, "\x80\x01"},
	{129, "\x81\x01"},
	{255, "\xff\x01"},
	{256, "\x80\x02"},
	{300, "\xac\x02"},
	{16383, "\xff\x7f"},
	{16384, "\x80\x80\x01"},
	{1<<21 - 1, "\xff\xff\x7f"},
	{1 << 21, "\x80\x80\x80\x01"},
	{1<<56 - 1, "\xff\xff\xff\xff\xff\xff\xff\x7f"},
	{1 << 56, "\x80\x80\x80\x80\x80\x80\x80\x80\x01"},
	{1 << 62, "\x80\x80\x80\x80\x80\x80\x80\x80\x40"},
	{math.MaxInt, "\xff\xff\xff\xff\xff\xff\xff\xff\x7f"},
}

// nums have their encodings beside them.
var nums = []struct {
	n int
	b string
}{
	{0, "\x00"},
	{-1, "\x01"},
	{1, "\x02"},
	{-2, "\x03"},
	{2, "\x04"},
	{63, "\x7e"},
	{-64, "\x7f"},
	{64, "\x80\x01"},
	{-65, "\x81\x01"},
	{-150, "\xab\x02"},
	{150, "\xac\x02"},
	{1 << 40, "\x80\x80\x80\x80\x80\x40"},
	{-1 << 40, "\xff\xff\xff\xff\xff\x3f"},
	{1<<62 - 1, "\xfe\xff\xff\xff\xff\xff\xff\xff\x7f"},
	{-1 << 62, "\xff\xff\xff\xff\xff\xff\xff\xff\x7f"},
	{1 << 62, "\x80\x80\x80\x80\x80\x80\x80\x80\x80\x01"},
	{math.MaxInt, "\xfe\xff\xff\xff\xff\xff\xff\xff\xff\x01"},
	{math.MinInt + 1, "\xfd\xff\xff\xff\xff\xff\xff\xff\xff\x01"},
	{math.MinInt, "\xff\xff\xff\xff\xff\xff\xff\xff\xff\x01"},
}

// around returns the numbers next to each power of two, with both signs.
func around() []int {
	var l []int
	for i := range 64 {
		for d := -2; d <= 2; d++ {
			l = append(l, 1<<i+d, -1<<i+d)
		}
	}
	return l
}

// P5.1, P5.2
func TestCounts(t *testing.T) {
	for _, x := range counts {
		if b := written(t, func(p *Pen) { p.Count(x.n) }); b != x.b {
			t.Errorf("Count(%d) appends %x, not %x", x.n, b, x.b)
		}
		for _, most := range []int{x.n, max(x.n, 300), math.MaxInt} {
			e := Of([]byte(x.b))
			if n := e.Count(most); n != x.n || e.End() != api.OK {
				t.Errorf("Count(%d) of %x is %d, %d", most, x.b, n, e.End())
			}
		}
	}
}

// P5.1, P5.2
func TestNums(t *testing.T) {
	for _, x := range nums {
		if b := written(t, func(p *Pen) { p.Num(x.n) }); b != x.b {
			t.Errorf("Num(%d) appends %x, not %x", x.n, b, x.b)
		}
		e := Of([]byte(x.b))
		if n := e.Num(); n != x.n || e.End() != api.OK {
			t.Errorf("Num of %x is %d, %d", x.b, n, e.End())
		}
	}
}

// P5.1: as the standard library encodes them.
func TestVarintsOfTheLibrary(t *testing.T) {
	for _, n := range around() {
		if b, want := written(t, func(p *Pen) { p.Num(n) }), string(binary.AppendVarint(nil, int64(n))); b != want {
			t.Errorf("Num(%d) appends %x, not %x", n, b, want)
		}
		if n < 0 {
			continue
		}
		if b, want := written(t, func(p *Pen) { p.Count(n) }), string(binary.AppendUvarint(nil, uint64(n))); b != want {
			t.Errorf("Count(%d) appends %x, not %x", n, b, want)
		}
	}
}

// P5.1, P5.2
func TestBytes(t *testing.T) {
	for x := range 256 {
		b := written(t, func(p *Pen) { p.Byte(uint8(x)) })
		if b != string([]byte{byte(x)}) {
			t.Errorf("Byte(%d) appends %x", x, b)
		}
		e := Of([]byte(b))
		if got := e.Byte(); got != uint8(x) || e.End() != api.OK {
			t.Errorf("Byte of %x is %d, %d", b, got, e.End())
		}
	}
}

// P5.1, P5.2
func TestWords(t *testing.T) {
	for _, x := range []struct {
		n uint32
		b string
	}{
		{0, "\x00\x00\x00\x00"},
		{1, "\x00\x00\x00\x01"},
		{0x01020304, "\x01\x02\x03\x04"},
		{0x80000000, "\x80\x00\x00\x00"},
		{0xfffefdfc, "\xff\xfe\xfd\xfc"},
		{math.MaxUint32, "\xff\xff\xff\xff"},
		{1230197842, "ISTR"},
	} {
		if b := written(t, func(p *Pen) { p.Word(x.n) }); b != x.b {
			t.Errorf("Word(%d) appends %x, not %x", x.n, b, x.b)
		}
		e := Of([]byte(x.b))
		if n := e.Word(); n != x.n || e.End() != api.OK {
			t.Errorf("Word of %x is %d, %d", x.b, n, e.End())
		}
	}
}

// P5.1, P5.2
func TestTexts(t *testing.T) {
	for _, x := range []struct{ s, b string }{
		{"", "\x00"},
		{"a", "\x01a"},
		{"ab", "\x02ab"},
		{"\x00", "\x01\x00"},
		{"\x00\xff\x80é\n", "\x06\x00\xff\x80é\n"},
		{strings.Repeat("x", 127), "\x7f" + strings.Repeat("x", 127)},
		{strings.Repeat("x", 128), "\x80\x01" + strings.Repeat("x", 128)},
		{strings.Repeat("xyz", 100000), "\xe0\xa7\x12" + strings.Repeat("xyz", 100000)},
	} {
		if b := written(t, func(p *Pen) { p.Text(x.s) }); b != x.b {
			t.Errorf("Text(%.20q) appends %.20q, not %.20q", x.s, b, x.b)
		}
		for _, most := range []int{len(x.s), len(x.s) + 1, math.MaxInt} {
			e := Of([]byte(x.b))
			if s := e.Text(most); s != x.s || e.End() != api.OK {
				t.Errorf("Text(%d) of %.20q is %.20q, %d", most, x.b, s, e.End())
			}
		}
	}
}

// P5.1: items stand one behind the other.
func TestItemsInOrder(t *testing.T) {
	b := written(t,
		func(p *Pen) { p.Byte(7) },
		func(p *Pen) { p.Count(300) },
		func(p *Pen) { p.Num(-150) },
		func(p *Pen) { p.Word(0x01020304) },
		func(p *Pen) { p.Text("ab") },
		func(p *Pen) { p.Text("") },
		func(p *Pen) { p.Byte(200) },
	)
	if want := "\x07\xac\x02\xab\x02\x01\x02\x03\x04\x02ab\x00\xc8"; b != want {
		t.Errorf("the buffer is %x, not %x", b, want)
	}
}

// P5.1
func TestNewIsEmpty(t *testing.T) {
	if b, e := New().Done(); len(b) != 0 || e != api.OK {
		t.Errorf("Done of a new Pen is %x, %d", b, e)
	}
}

// P5.1: Done does not end the writing.
func TestDoneAgain(t *testing.T) {
	p := New()
	p.Text("ab")
	for range 2 {
		if b, e := p.Done(); string(b) != "\x02ab" || e != api.OK {
			t.Errorf("Done is %x, %d", b, e)
		}
	}
	p.Byte(9)
	if b, e := p.Done(); string(b) != "\x02ab\x09" || e != api.OK {
		t.Errorf("Done after another item is %x, %d", b, e)
	}
}

// P5.1: no later item makes a negative Count good.
func TestNegativeCount(t *testing.T) {
	for _, n := range []int{-1, -2, -128, math.MinInt, math.MinInt + 1} {
		p := New()
		p.Text("ab")
		p.Count(n)
		for range 2 {
			if b, e := p.Done(); b != nil || e != api.ErrArg {
				t.Errorf("Done after Count(%d) is %x, %d, not ErrArg", n, b, e)
			}
			p.Count(1)
			p.Byte(2)
			p.Num(n)
		}
	}
}

// P5.1: what a negative Count appends can only be seen in the buffer itself.
func TestNegativeCountAppendsNothing(t *testing.T) {
	p := New()
	p.Byte(1)
	p.Count(-1)
	p.Byte(2)
	if string(p.buffer) != "\x01\x02" {
		t.Errorf("the buffer is %x", p.buffer)
	}
}

// P5.1
func TestNilPen(t *testing.T) {
	var p *Pen
	for _, call := range []func(){
		func() { p.Byte(1) },
		func() { p.Count(1) },
		func() { p.Count(-1) },
		func() { p.Num(-1) },
		func() { p.Word(1) },
		func() { p.Text("a") },
		func() { p.Text("") },
	} {
		call()
		if b, e := p.Done(); len(b) != 0 || e != api.ErrNil {
			t.Errorf("Done of nil is %x, %d, not ErrNil", b, e)
		}
	}
}

// An item is one of those that are read, whose value is told as a number or a text.
type item struct {
	name string
	read func(e *Eye) (int, string)
}

func byteItem() item {
	return item{"Byte", func(e *Eye) (int, string) { return int(e.Byte()), "" }}
}

func countItem(most int) item {
	return item{"Count", func(e *Eye) (int, string) { return e.Count(most), "" }}
}

func numItem() item {
	return item{"Num", func(e *Eye) (int, string) { return e.Num(), "" }}
}

func wordItem() item {
	return item{"Word", func(e *Eye) (int, string) { return int(e.Word()), "" }}
}

func textItem(most int) item {
	return item{"Text", func(e *Eye) (int, string) { return 0, e.Text(most) }}
}

// items are all kinds of them, with limits that are met.
func items() []item {
	return []item{byteItem(), countItem(math.MaxInt), numItem(), wordItem(), textItem(math.MaxInt)}
}

// checkFailed checks an Eye after an error: no item is read any more, and the error and the number of unread bytes stay.
func checkFailed(t *testing.T, e *Eye, bad api.Errno, left int) {
	t.Helper()
	for range 2 {
		if e.Bad() != bad || e.End() != bad || e.Left() != left {
			t.Errorf("Bad is %d, End %d and Left %d, not %d, %d and %d", e.Bad(), e.End(), e.Left(), bad, bad, left)
		}
		for _, i := range append(items(), countItem(-1), textItem(0)) {
			if n, s := i.read(e); n != 0 || s != "" {
				t.Errorf("%s after an error is %d, %q", i.name, n, s)
			}
			if e.Bad() != bad || e.Left() != left {
				t.Errorf("Bad is %d and Left %d after %s, not %d and %d", e.Bad(), e.Left(), i.name, bad, left)
			}
		}
	}
}

const nineMore = "\x80\x80\x80\x80\x80\x80\x80\x80\x80" // the first nine bytes of a varint that goes on

// P5.2
func TestErrorsOfItems(t *testing.T) {
	most := math.MaxInt
	for _, x := range []struct {
		i   item
		b   string
		bad api.Errno
	}{
		{byteItem(), "", api.ErrShort},
		{wordItem(), "", api.ErrShort},
		{wordItem(), "\x01", api.ErrShort},
		{wordItem(), "\x01\x02\x03", api.ErrShort},

		{countItem(most), "", api.ErrShort},
		{countItem(most), "\x80", api.ErrShort},
		{countItem(most), "\xff\xff", api.ErrShort},
		{countItem(most), nineMore, api.ErrShort},
		{countItem(0), nineMore, api.ErrShort},
		{countItem(most), "\x80\x00", api.ErrForm},
		{countItem(most), "\x85\x00\x01", api.ErrForm},
		{countItem(most), "\x80\x80\x00", api.ErrForm},
		{countItem(most), nineMore + "\x00", api.ErrForm},
		{countItem(most), nineMore + "\x01", api.ErrForm}, // 2^63
		{countItem(most), "\xff\xff\xff\xff\xff\xff\xff\xff\xff\x01", api.ErrForm},
		{countItem(most), nineMore + "\x02", api.ErrForm},
		{countItem(most), nineMore + "\x7f", api.ErrForm},
		{countItem(most), nineMore + "\x80", api.ErrForm},
		{countItem(most), nineMore + "\x80\x01", api.ErrForm},
		{countItem(most), nineMore + nineMore, api.ErrForm},
		{countItem(most), strings.Repeat("\xff", 30), api.ErrForm},

		{countItem(4), "\x05", api.ErrMany},
		{countItem(0), "\x01", api.ErrMany},
		{countItem(-1), "\x01", api.ErrMany},
		{countItem(math.MinInt), "\x01", api.ErrMany},
		{countItem(127), "\x80\x01", api.ErrMany},
		{countItem(128), "\x81\x01\x00", api.ErrMany},
		{countItem(most - 1), "\xff\xff\xff\xff\xff\xff\xff\xff\x7f", api.ErrMany},
		{countItem(-1), "\xff\xff\xff\xff\xff\xff\xff\xff\x7f", api.ErrMany},
		// The form goes before the limit.
		{countItem(0), "\x85\x00", api.ErrForm},
		{countItem(-1), nineMore + "\x01", api.ErrForm},
		{countItem(0), "\x85", api.ErrShort},

		{numItem(), "", api.ErrShort},
		{numItem(), "\x80", api.ErrShort},
		{numItem(), nineMore, api.ErrShort},
		{numItem(), "\x80\x00", api.ErrForm},
		{numItem(), "\x81\x80\x00\x07", api.ErrForm},
		{numItem(), nineMore + "\x00", api.ErrForm},
		{numItem(), nineMore + "\x02", api.ErrForm},
		{numItem(), nineMore + "\x03", api.ErrForm},
		{numItem(), nineMore + "\x7f", api.ErrForm},
		{numItem(), nineMore + "\x80", api.ErrForm},
		{numItem(), nineMore + "\x81\x01", api.ErrForm},

		{textItem(most), "", api.ErrShort},
		{textItem(most), "\x80", api.ErrShort},
		{textItem(most), "\x01", api.ErrShort},
		{textItem(most), "\x03ab", api.ErrShort},
		{textItem(most), "\xff\xff\xff\xff\xff\xff\xff\xff\x7fab", api.ErrShort},
		{textItem(most), "\x80\x01" + strings.Repeat("a", 127), api.ErrShort},
		{textItem(most), "\x80\x00", api.ErrForm},
		{textItem(most), "\x81\x00a", api.ErrForm},
		{textItem(most), nineMore + "\x01", api.ErrForm},
		{textItem(most), nineMore + "\x02", api.ErrForm},
		{textItem(1), "\x02ab", api.ErrMany},
		{textItem(0), "\x01a", api.ErrMany},
		{textItem(-1), "\x01a", api.ErrMany},
		{textItem(math.MinInt), "\x01a", api.ErrMany},
		// The limit goes before the end of the bytes, and the form before both.
		{textItem(4), "\x05a", api.ErrMany},
		{textItem(0), "\x01", api.ErrMany},
		{textItem(0), "\x85\x00", api.ErrForm},
	} {
		// The item is read at the start and behind another one.
		e := Of([]byte(x.b))
		if n, s := x.i.read(e); n != 0 || s != "" {
			t.Errorf("%s of %x is %d, %q with an error", x.i.name, x.b, n, s)
		}
		checkFailed(t, e, x.bad, len(x.b))
		e = Of([]byte("\x02yz" + x.b))
		if s := e.Text(2); s != "yz" {
			t.Errorf("the item before is %q", s)
		}
		x.i.read(e)
		checkFailed(t, e, x.bad, len(x.b))
		if t.Failed() {
			t.Fatalf("so it was with %s of %x", x.i.name, x.b)
		}
	}
}

// P5.2: what is right at the very bounds of the errors.
func TestBoundsOfItems(t *testing.T) {
	for _, x := range []struct {
		i item
		b string
		n int
		s string
	}{
		{countItem(0), "\x00", 0, ""},
		{countItem(-1), "\x00", 0, ""},
		{countItem(math.MinInt), "\x00", 0, ""},
		{countItem(5), "\x05", 5, ""},
		{countItem(128), "\x80\x01", 128, ""},
		{numItem(), nineMore + "\x01", 1 << 62, ""},
		{numItem(), "\x80\x80\x80\x80\x80\x80\x80\x80\x01", 1 << 55, ""},
		{textItem(0), "\x00", 0, ""},
		{textItem(-1), "\x00", 0, ""},
		{textItem(math.MinInt), "\x00", 0, ""},
		{textItem(2), "\x02ab", 0, "ab"},
	} {
		for _, behind := range []string{"", "\x00", "\x01more"} {
			e := Of([]byte(x.b + behind))
			if n, s := x.i.read(e); n != x.n || s != x.s || e.Bad() != api.OK || e.Left() != len(behind) {
				t.Errorf("%s of %x is %d, %q, Bad %d, Left %d", x.i.name, x.b+behind, n, s, e.Bad(), e.Left())
			}
		}
	}
}

// P5.2
func TestLeftAndEnd(t *testing.T) {
	e := Of([]byte("\x07\xac\x02\xab\x02\x01\x02\x03\x04\x02ab"))
	for _, x := range []struct {
		i    item
		n    int
		s    string
		left int
	}{
		{byteItem(), 7, "", 11},
		{countItem(300), 300, "", 9},
		{numItem(), -150, "", 7},
		{wordItem(), 0x01020304, "", 3},
		{textItem(2), 0, "ab", 0},
	} {
		// That bytes remain is no error of an item: reading goes on.
		if e.Bad() != api.OK || e.End() != api.ErrRest || e.Bad() != api.OK {
			t.Errorf("before %s, Bad is %d and End %d", x.i.name, e.Bad(), e.End())
		}
		if n, s := x.i.read(e); n != x.n || s != x.s || e.Left() != x.left {
			t.Errorf("%s is %d, %q, and Left %d", x.i.name, n, s, e.Left())
		}
	}
	if e.Bad() != api.OK || e.End() != api.OK {
		t.Errorf("in the end, Bad is %d and End %d", e.Bad(), e.End())
	}
	e.Byte()
	checkFailed(t, e, api.ErrShort, 0)
}

// P5.2
func TestEyeOfNothing(t *testing.T) {
	for _, b := range [][]byte{nil, {}} {
		e := Of(b)
		if e.Left() != 0 || e.Bad() != api.OK || e.End() != api.OK {
			t.Errorf("Left is %d, Bad %d and End %d", e.Left(), e.Bad(), e.End())
		}
	}
}

// P5.2
func TestNilEye(t *testing.T) {
	checkFailed(t, nil, api.ErrNil, 0)
}

// A decoded item is what the definitions of the chapter make of the first bytes.
type decoded struct {
	n    int
	s    string
	size int
	bad  api.Errno
}

// varintOf decodes a varint by the definitions of the chapter, of a count or of a signed number.
func varintOf(b string, signed bool) (*big.Int, int, api.Errno) {
	size := 0
	for size < len(b) && b[size] >= 128 {
		size++
	}
	switch {
	case size >= 10, size == 9 && len(b) > 9 && b[9] > 1, size > 0 && size < len(b) && b[size] == 0:
		return nil, 0, api.ErrForm
	case size == len(b):
		return nil, 0, api.ErrShort
	}
	x := new(big.Int)
	for i := size; i >= 0; i-- {
		x.Mul(x, big.NewInt(128)).Add(x, big.NewInt(int64(b[i]%128)))
	}
	if !signed && x.Cmp(new(big.Int).Lsh(big.NewInt(1), 63)) >= 0 {
		return nil, 0, api.ErrForm
	}
	return x, size + 1, api.OK
}

// countOf decodes a count.
func countOf(b string, most int) decoded {
	x, size, bad := varintOf(b, false)
	switch {
	case bad != api.OK:
		return decoded{bad: bad}
	case x.Cmp(big.NewInt(int64(max(most, 0)))) > 0:
		return decoded{bad: api.ErrMany}
	}
	return decoded{n: int(x.Int64()), size: size}
}

// numOf decodes a signed number.
func numOf(b string) decoded {
	x, size, bad := varintOf(b, true)
	if bad != api.OK {
		return decoded{bad: bad}
	}
	if x.Bit(0) == 1 { // 2(-n)-1
		x.Add(x, big.NewInt(1)).Neg(x)
	}
	return decoded{n: int(x.Quo(x, big.NewInt(2)).Int64()), size: size}
}

// textOf decodes a string.
func textOf(b string, most int) decoded {
	d := countOf(b, most)
	switch {
	case d.bad != api.OK:
		return d
	case len(b)-d.size < d.n:
		return decoded{bad: api.ErrShort}
	}
	return decoded{s: b[d.size : d.size+d.n], size: d.size + d.n}
}

// checkDecoded checks what an item of the bytes is, and P5.3: that it is encoded as it was read.
func checkDecoded(t *testing.T, i item, write func(p *Pen, n int, s string), b string, want decoded) {
	t.Helper()
	e := Of([]byte(b))
	n, s := i.read(e)
	if n != want.n || s != want.s || e.Bad() != want.bad || e.Left() != len(b)-want.size {
		t.Fatalf("%s of %x is %d, %q, Bad %d, Left %d, not %+v", i.name, b, n, s, e.Bad(), e.Left(), want)
	}
	if want.bad != api.OK {
		return
	}
	if back := written(t, func(p *Pen) { write(p, n, s) }); back != b[:want.size] {
		t.Fatalf("%s of %x is written as %x", i.name, b, back)
	}
}

// checkVarints checks all items that begin with a varint, by the definitions of the chapter.
func checkVarints(t *testing.T, b string) {
	t.Helper()
	for _, most := range []int{-1, 0, 1, 127, 128, 16384, math.MaxInt - 1, math.MaxInt} {
		checkDecoded(t, countItem(most), func(p *Pen, n int, _ string) { p.Count(n) }, b, countOf(b, most))
		checkDecoded(t, textItem(most), func(p *Pen, _ int, s string) { p.Text(s) }, b, textOf(b, most))
	}
	checkDecoded(t, numItem(), func(p *Pen, n int, _ string) { p.Num(n) }, b, numOf(b))
}

// P5.2, P5.3
func TestVarintsOfEveryTwoBytes(t *testing.T) {
	checkVarints(t, "")
	for x := range 256 {
		checkVarints(t, string([]byte{byte(x)}))
		for y := range 256 {
			checkVarints(t, string([]byte{byte(x), byte(y)}))
		}
	}
}

// P5.2, P5.3: varints of every length, with every last byte.
func TestVarintsOfEveryLength(t *testing.T) {
	for _, goesOn := range []string{"\x80", "\x81", "\xc0", "\xff"} {
		for n := range 13 {
			start := strings.Repeat(goesOn, n)
			checkVarints(t, start)
			for x := range 256 {
				checkVarints(t, start+string([]byte{byte(x)}))
				checkVarints(t, start+string([]byte{byte(x)})+"\x01a")
			}
		}
	}
}

// P5.3
func TestNumbersAreReadBack(t *testing.T) {
	for _, n := range around() {
		b := written(t, func(p *Pen) { p.Num(n) }, func(p *Pen) { p.Word(uint32(n)) }, func(p *Pen) { p.Byte(uint8(n)) })
		e := Of([]byte(b))
		if e.Num() != n || e.Word() != uint32(n) || e.Byte() != uint8(n) || e.End() != api.OK {
			t.Errorf("the items of %d are not read back", n)
		}
		if n < 0 {
			continue
		}
		e = Of([]byte(written(t, func(p *Pen) { p.Count(n) })))
		if e.Count(n) != n || e.End() != api.OK {
			t.Errorf("the count %d is not read back", n)
		}
	}
}

// P5.3: items of all kinds, in every order of four.
func TestItemsAreReadBack(t *testing.T) {
	pairs := []struct {
		write func(p *Pen, x uint32)
		read  func(e *Eye, x uint32) bool
	}{
		{func(p *Pen, x uint32) { p.Byte(byte(x)) }, func(e *Eye, x uint32) bool { return e.Byte() == byte(x) }},
		{func(p *Pen, x uint32) { p.Count(int(x)) }, func(e *Eye, x uint32) bool { return e.Count(1<<32) == int(x) }},
		{func(p *Pen, x uint32) { p.Num(-int(x)) }, func(e *Eye, x uint32) bool { return e.Num() == -int(x) }},
		{func(p *Pen, x uint32) { p.Word(x) }, func(e *Eye, x uint32) bool { return e.Word() == x }},
		{func(p *Pen, x uint32) { p.Text(textFrom(x)) }, func(e *Eye, x uint32) bool { return e.Text(255) == textFrom(x) }},
	}
	x := uint32(1)
	for order := range 5 * 5 * 5 * 5 {
		first := x
		p := New()
		for at := order + 625; at > 1; at /= 5 {
			pairs[at%5].write(p, x)
			x = x*1664525 + 1013904223
		}
		b, bad := p.Done()
		if bad != api.OK {
			t.Fatalf("Done is %d", bad)
		}
		e := Of(b)
		x = first
		for at := order + 625; at > 1; at /= 5 {
			if !pairs[at%5].read(e, x) {
				t.Fatalf("item %d of %x is not read back", at%5, b)
			}
			x = x*1664525 + 1013904223
		}
		if e.End() != api.OK {
			t.Fatalf("End of %x is %d", b, e.End())
		}
	}
}

// textFrom returns a text of up to 255 bytes.
func textFrom(x uint32) string {
	return strings.Repeat(string([]byte{byte(x >> 8)}), int(x>>24))
}

// R3
func TestArgumentsAreLeft(t *testing.T) {
	all := []byte("\x02ab\x01c\x05rest")
	b := all[:5]
	e := Of(b)
	if s := e.Text(9); s != "ab" {
		t.Errorf("Text is %q", s)
	}
	if string(all) != "\x02ab\x01c\x05rest" {
		t.Errorf("Of has changed its argument to %q", all)
	}
	clear(all)
	if s := e.Text(9); s != "c" || e.End() != api.OK {
		t.Errorf("Text is %q after the argument of Of has changed", s)
	}
	e.Byte()
	checkFailed(t, e, api.ErrShort, 0)
}

// R3
func TestResultsAreNew(t *testing.T) {
	p := New()
	p.Text("ab")
	a, _ := p.Done()
	b, _ := p.Done()
	clear(a[:cap(a)])
	p.Byte(5)
	c, _ := p.Done()
	clear(b[:cap(b)])
	if d, _ := p.Done(); string(c) != "\x02ab\x05" || !bytes.Equal(c, d) {
		t.Errorf("Done is %x and %x after its results have changed", c, d)
	}
}

// R4
func TestObjectsStandAlone(t *testing.T) {
	p, q := New(), New()
	p.Count(-1)
	q.Byte(1)
	if b, e := q.Done(); string(b) != "\x01" || e != api.OK {
		t.Errorf("Done is %x, %d after an error of another Pen", b, e)
	}
	l := []byte{1, 2}
	e, f := Of(l), Of(l)
	e.Word()
	if x := f.Byte(); x != 1 || f.Left() != 1 || f.Bad() != api.OK {
		t.Errorf("Byte is %d, Left %d, Bad %d after an error of another Eye", x, f.Left(), f.Bad())
	}
}
