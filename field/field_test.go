package field

import (
	"bytes"
	"math"
	"math/rand"
	"slices"
	"strings"
	"testing"

	"instar/api"
)

// edge is the greatest bound of a KInt field.
const edge = 1 << 40

func whole(lo, hi int) api.Field { return api.Field{ID: 1, Kind: 1, Lo: lo, Hi: hi} }

func pick(most int) api.Field { return api.Field{ID: 3, Kind: 3, Most: most} }

func text(most int) api.Field { return api.Field{ID: 4, Kind: 4, Most: most} }

func boolean() api.Field { return api.Field{ID: 2, Kind: 2} }

// odd returns numbers that an overflow, or a conversion to fewer bits, could bring into bounds.
func odd() []int {
	return []int{math.MinInt, math.MinInt + 1, math.MinInt + 2, math.MinInt + 255, math.MinInt32, -1 << 62, -1 << 41, -1 << 32, 1 - 1<<32, 2 - 1<<32, -65536, -65535, -256, -255,
		-3, -2, -1, 1 << 16, 1<<16 + 1, math.MaxInt32, math.MaxUint32, 1 << 32, 1<<32 + 1, 1<<32 + 3, 1 << 41, 1 << 62, math.MaxInt - 255, math.MaxInt - 1, math.MaxInt}
}

// valid reports whether a field is valid, as the chapter defines it.
func valid(f api.Field) bool {
	bounds := []int{f.Lo, f.Hi}
	switch {
	case f.ID < 0, f.ID > 255:
		return false
	case f.Kind == 1:
		return f.Lo <= f.Hi && slices.Min(bounds) >= -1<<40 && slices.Max(bounds) <= 1<<40 && f.Most == 0
	case f.Kind == 2:
		return f.Lo == 0 && f.Hi == 0 && f.Most == 0
	case f.Kind == 3:
		return f.Most >= 1 && f.Most <= 1000 && f.Lo == 0 && f.Hi == 0
	case f.Kind == 4:
		return f.Most >= 0 && f.Most <= 32 && f.Lo == 0 && f.Hi == 0
	}
	return false
}

// belongs reports whether a value belongs to a field, as the chapter defines it.
func belongs(f api.Field, v api.Value) bool {
	switch {
	case !valid(f):
		return false
	case f.Kind == 4:
		return v.N == 0 && len(v.S) <= f.Most
	case v.S != "":
		return false
	case f.Kind == 1:
		return v.N >= f.Lo && v.N <= f.Hi
	case f.Kind == 2:
		return v.N == 0 || v.N == 1
	}
	return v.N >= 0 && v.N <= f.Most-1
}

// maximum returns the greatest encoded number of a field that is not KText.
func maximum(f api.Field) int {
	switch f.Kind {
	case 1:
		return f.Hi - f.Lo
	case 2:
		return 1
	}
	return f.Most - 1
}

// width returns the smallest number of bytes that hold a number.
func width(max int) int {
	n := 0
	for ; max > 0; max /= 256 {
		n++
	}
	return n
}

// big returns the bytes of a number, the most significant one first.
func big(n, size int) []byte {
	b := []byte{}
	for range size {
		b = append(b, byte(n%256))
		n /= 256
	}
	slices.Reverse(b)
	return b
}

// encoded returns the encoding of a value that belongs to a field.
func encoded(f api.Field, v api.Value) []byte {
	switch f.Kind {
	case 1:
		return big(v.N-f.Lo, width(f.Hi-f.Lo))
	case 2:
		return big(v.N, 1)
	case 3:
		return big(v.N, width(f.Most-1))
	}
	return append([]byte{byte(len(v.S))}, v.S...)
}

// decoded returns what Take must return for a valid field.
func decoded(f api.Field, b []byte) (api.Value, int, api.Errno) {
	if f.Kind == 4 {
		switch {
		case len(b) < 1:
			return api.Value{}, 0, api.ErrShort
		case int(b[0]) > f.Most:
			return api.Value{}, 0, api.ErrValue
		case len(b) < int(b[0])+1:
			return api.Value{}, 0, api.ErrShort
		}
		return api.Value{S: string(b[1 : b[0]+1])}, int(b[0]) + 1, api.OK
	}
	n, size := 0, width(maximum(f))
	if len(b) < size {
		return api.Value{}, 0, api.ErrShort
	}
	for _, x := range b[:size] {
		n = 256*n + int(x)
	}
	if n > maximum(f) {
		return api.Value{}, 0, api.ErrValue
	}
	if f.Kind == 1 {
		n += f.Lo
	}
	return api.Value{N: n}, size, api.OK
}

// anyText returns a string of n bytes of any values.
func anyText(r *rand.Rand, n int) string {
	b := make([]byte, n)
	for i := range b {
		b[i] = []byte{0, 1, byte(n), 'a', 127, 128, 0xC3, 255, byte(r.Intn(256))}[r.Intn(9)]
	}
	return string(b)
}

// fields returns valid fields: all that are not KInt, and KInt fields whose greatest encoded number is at the bounds of each width.
func fields() []api.Field {
	l := []api.Field{boolean()}
	for most := 1; most <= 1000; most++ {
		l = append(l, pick(most))
	}
	for most := 0; most <= 32; most++ {
		l = append(l, text(most))
	}
	for _, max := range []int{0, 1, 2, 9, 100, 254, 255, 256, 257, 300, 65534, 65535, 65536, 1<<24 - 1, 1 << 24, 1<<31 - 1, 1 << 31, 1<<32 - 1, 1 << 32, 1<<40 - 1, 1 << 40, 1<<41 - 1, 1 << 41} {
		for _, lo := range []int{-edge, 1 - edge, -1 << 32, -65536, -256, -10, -1, 0, 1, 10, 255, 256, 65535, 1 << 32, edge - max, -max, -max / 2, edge - 1, edge} {
			if f := whole(lo, lo+max); valid(f) {
				l = append(l, f)
			}
		}
	}
	return l
}

// small returns valid fields with few values.
func small() []api.Field {
	l := []api.Field{boolean()}
	for n := range 12 {
		l = append(l, pick(n+1), text(n%3))
		for lo := -6; lo <= 4; lo += 2 {
			l = append(l, whole(lo, lo+n))
		}
	}
	return append(l, pick(256), pick(257), pick(1000), whole(-3, 252), whole(-3, 253), whole(10, 300))
}

// someText returns every string of at most most bytes, of three different bytes.
func someText(most int) []string {
	all, last := []string{""}, []string{""}
	for range most {
		next := []string{}
		for _, s := range last {
			next = append(next, s+"\x00", s+"\x01", s+"\xFF")
		}
		all, last = append(all, next...), next
	}
	return all
}

// every returns the values of a small field (of a KText field those that someText returns).
func every(f api.Field) []api.Value {
	l := []api.Value{}
	if f.Kind == 4 {
		for _, s := range someText(f.Most) {
			l = append(l, api.Value{S: s})
		}
		return l
	}
	for n := -20; n <= 1200; n++ {
		if v := (api.Value{N: n}); belongs(f, v) {
			l = append(l, v)
		}
	}
	return l
}

// values returns values that belong to a field or nearly so.
func values(r *rand.Rand, f api.Field) []api.Value {
	l := []api.Value{}
	for _, n := range append(odd(), 0, 1, 2, 3, f.Lo-1, f.Lo, f.Lo+1, f.Lo+r.Intn(f.Hi-f.Lo+1), f.Hi-1, f.Hi, f.Hi+1, f.Most-1, f.Most, f.Most+1, -f.Most) {
		for _, s := range []string{"", "a", "\x00", anyText(r, 32)} {
			l = append(l, api.Value{N: n, S: s})
		}
	}
	for _, n := range []int{0, 1, 2, f.Most - 1, f.Most, f.Most + 1, 31, 32, 33, 255, 256, 257, 300} {
		if n >= 0 && n <= 300 {
			l = append(l, api.Value{S: anyText(r, n)}, api.Value{S: strings.Repeat("é", n/2)})
		}
	}
	return l
}

// wrong returns invalid fields: most of them are valid but for one member.
func wrong() []api.Field {
	l := []api.Field{{}, {ID: -1, Kind: -1, Lo: 1, Hi: -1, Most: -1}}
	for _, n := range append(odd(), 0, 5, 6, 7, 255, 256) {
		l = append(l, api.Field{Kind: n}, api.Field{Kind: n, Most: 5}, api.Field{Kind: n, Lo: 1, Hi: 2})
	}
	for _, n := range append(odd(), 256, 257, 1000) {
		for _, f := range []api.Field{boolean(), pick(5), text(5), whole(-2, 2)} {
			f.ID = n
			l = append(l, f)
		}
	}
	for _, n := range append(odd(), 1, 2) {
		for _, f := range []api.Field{boolean(), pick(5), text(5)} {
			lo, hi, both := f, f, f
			lo.Lo, hi.Hi, both.Lo, both.Hi = n, n, n, n
			l = append(l, lo, hi, both)
		}
		l = append(l, api.Field{Kind: 1, Lo: -2, Hi: 2, Most: n}, api.Field{Kind: 2, Most: n})
	}
	for _, n := range odd() {
		l = append(l, pick(n), text(n))
		if n < -edge || n > edge {
			l = append(l, whole(n, n), whole(n, 0), whole(0, n), whole(n, edge), whole(-edge, n))
		}
	}
	return append(l, pick(0), pick(1001), text(33), text(255), text(256), whole(1, 0), whole(0, -1), whole(edge, -edge), whole(edge, edge-1),
		whole(-edge-1, 0), whole(0, edge+1), whole(edge+1, edge+1), whole(-edge-1, -edge-1), whole(math.MaxInt, math.MinInt), whole(math.MinInt, math.MaxInt))
}

func checkLay(t *testing.T, f api.Field, v api.Value, want []byte, e api.Errno) {
	t.Helper()
	if b, got := Lay(f, v); !bytes.Equal(b, want) || got != e {
		t.Fatalf("Lay(%+v, %#v) is %d, error %d, not %d, error %d", f, v, b, got, want, e)
	}
}

func checkTake(t *testing.T, f api.Field, b []byte, want api.Value, size int, e api.Errno) {
	t.Helper()
	if v, n, got := Take(f, b); v != want || n != size || got != e {
		t.Fatalf("Take(%+v, %d) is %#v, %d, error %d, not %#v, %d, error %d", f, b, v, n, got, want, size, e)
	}
}

// checkDecoded checks Take against decoded, and returns its error.
func checkDecoded(t *testing.T, f api.Field, b []byte) api.Errno {
	t.Helper()
	v, n, e := decoded(f, b)
	checkTake(t, f, b, v, n, e)
	return e
}

// The examples of the chapter.
func TestExamples(t *testing.T) {
	checkLay(t, whole(10, 300), api.Value{N: 300}, []byte{1, 34}, api.OK)
	checkTake(t, whole(10, 300), []byte{1, 34}, api.Value{N: 300}, 2, api.OK)
	for most, size := range map[int]int{256: 1, 257: 2} {
		if got := Size(pick(most)); got != size {
			t.Errorf("Size of a KPick of %d values is %d, not %d", most, got, size)
		}
	}
}

// P12.1
func TestRight(t *testing.T) {
	for _, f := range fields() {
		for _, id := range []int{0, 1, 127, 128, 254, 255} {
			f.ID = id
			if !Right(f) {
				t.Errorf("Right(%+v) is false", f)
			}
		}
	}
	for _, f := range wrong() {
		if Right(f) {
			t.Errorf("Right(%+v) is true", f)
		}
	}
}

// P12.1: every member near each of its bounds, with each of the others near its bounds.
func TestRightOfAllMembers(t *testing.T) {
	bounds := append(odd(), -edge-1, -edge, 1-edge, 0, 1, edge-1, edge, edge+1)
	mosts := append(odd(), 0, 1, 2, 31, 32, 33, 999, 1000, 1001)
	right := 0
	for kind := -1; kind <= 6; kind++ {
		for _, id := range []int{-1, 0, 255, 256} {
			for _, lo := range bounds {
				for _, hi := range bounds {
					for _, most := range mosts {
						f := api.Field{ID: id, Kind: kind, Lo: lo, Hi: hi, Most: most}
						if Right(f) != valid(f) {
							t.Fatalf("Right(%+v) is %t", f, Right(f))
						}
						if valid(f) {
							right++
						}
					}
				}
			}
		}
	}
	if right < 100 {
		t.Errorf("%d fields are valid", right)
	}
}

// P12.1
func TestHas(t *testing.T) {
	r := rand.New(rand.NewSource(1))
	for _, f := range append(fields(), small()...) {
		has := 0
		for _, v := range values(r, f) {
			if Has(f, v) != belongs(f, v) {
				t.Fatalf("Has(%+v, %#v) is %t", f, v, Has(f, v))
			}
			if belongs(f, v) {
				has++
			}
		}
		if has == 0 {
			t.Errorf("no value belongs to %+v", f)
		}
	}
}

// P12.1: the values of a field of each kind, one by one.
func TestHasOfEachKind(t *testing.T) {
	for _, c := range []struct {
		f         api.Field
		low, high int
		strings   bool
	}{
		{whole(-7, 1000), -7, 1000, false}, {whole(5, 5), 5, 5, false}, {whole(-9, -3), -9, -3, false}, {boolean(), 0, 1, false},
		{pick(1), 0, 0, false}, {pick(2), 0, 1, false}, {pick(1000), 0, 999, false}, {text(0), 0, 0, false}, {text(1), 0, 0, true}, {text(32), 0, 0, true},
	} {
		for n := -2000; n <= 2000; n++ {
			is := n >= c.low && n <= c.high
			if Has(c.f, api.Value{N: n}) != is {
				t.Errorf("Has(%+v, %d) is %t", c.f, n, !is)
			}
			if is = is && c.strings; Has(c.f, api.Value{N: n, S: "a"}) != is {
				t.Errorf("Has(%+v, %d and a string of one byte) is %t", c.f, n, !is)
			}
		}
	}
	for n := range 300 {
		for most := range 33 {
			if Has(text(most), api.Value{S: strings.Repeat("\xFF", n)}) != (n <= most) {
				t.Errorf("Has of a string of %d bytes, and Most %d, is %t", n, most, n > most)
			}
		}
	}
}

// P12.1, P12.2, P12.3: a field that is not valid.
func TestInvalidFields(t *testing.T) {
	for _, f := range wrong() {
		for _, n := range append(odd(), 0, 1, 2, f.Lo, f.Hi, f.Most) {
			for _, s := range []string{"", "a", "ab"} {
				v := api.Value{N: n, S: s}
				if Has(f, v) {
					t.Errorf("Has(%+v, %#v) is true", f, v)
				}
				checkLay(t, f, v, nil, api.ErrArg)
			}
		}
		if v := Least(f); v != (api.Value{}) {
			t.Errorf("Least(%+v) is %+v", f, v)
		}
		if n := Size(f); n != 0 {
			t.Errorf("Size(%+v) is %d", f, n)
		}
		for _, b := range []string{"", "\x00", "\x01", "\x01a", "\xFF", "\x00\x00\x00\x00\x00\x00\x00\x00\x00", strings.Repeat("\xFF", 300)} {
			checkTake(t, f, []byte(b), api.Value{}, 0, api.ErrArg)
		}
		for _, g := range append(small(), f) {
			if Wider(f, g) || Wider(g, f) {
				t.Errorf("Wider(%+v, %+v) is %t, and %t in the other order", f, g, Wider(f, g), Wider(g, f))
			}
		}
	}
}

// P12.1
func TestLeast(t *testing.T) {
	for _, f := range append(fields(), small()...) {
		want := api.Value{}
		if f.Kind == 1 {
			want.N = f.Lo
		}
		if v := Least(f); v != want {
			t.Errorf("Least(%+v) is %+v, not %+v", f, v, want)
		}
		if !Has(f, Least(f)) {
			t.Errorf("Least(%+v) does not belong to it", f)
		}
	}
}

// P12.1
func TestSize(t *testing.T) {
	for _, c := range []struct {
		f    api.Field
		want int
	}{
		{whole(0, 0), 0}, {whole(edge, edge), 0}, {whole(-5, -5), 0}, {whole(0, 1), 1}, {whole(-5, 250), 1}, {whole(-5, 251), 2}, {whole(-edge, 255-edge), 1}, {whole(-edge, 256-edge), 2},
		{whole(0, 1<<16-1), 2}, {whole(0, 1<<16), 3}, {whole(1, 1<<24), 3}, {whole(0, 1<<24), 4}, {whole(-1, 1<<32-2), 4}, {whole(-1, 1<<32-1), 5}, {whole(1, edge), 5}, {whole(0, edge), 6}, {whole(-edge, -1), 5}, {whole(-edge, edge), 6},
		{boolean(), 1}, {pick(1), 0}, {pick(2), 1}, {pick(255), 1}, {pick(256), 1}, {pick(257), 2}, {pick(1000), 2}, {text(0), 1}, {text(1), 2}, {text(31), 32}, {text(32), 33},
	} {
		if n := Size(c.f); n != c.want {
			t.Errorf("Size(%+v) is %d, not %d", c.f, n, c.want)
		}
	}
	for _, f := range fields() {
		want := width(maximum(f))
		if f.Kind == 4 {
			want = 1 + f.Most
		}
		if n := Size(f); n != want {
			t.Errorf("Size(%+v) is %d, not %d", f, n, want)
		}
	}
}

// P12.2: against the values of small fields, with every ID that a field may have.
func TestWider(t *testing.T) {
	l := small()
	for i, a := range l {
		for j, b := range l {
			// The strings that someText returns stand for all: with them go those of the same length.
			want := a.Kind == b.Kind && !slices.ContainsFunc(every(a), func(v api.Value) bool { return !belongs(b, v) })
			a.ID, b.ID = i%256, j%256
			if got := Wider(a, b); got != want {
				t.Errorf("Wider(%+v, %+v) is %t", a, b, got)
			}
		}
	}
}

// P12.2: fields with many values.
func TestWiderOfGreatFields(t *testing.T) {
	for most := range 33 {
		for other := range 33 {
			if Wider(text(most), text(other)) != (most <= other) {
				t.Errorf("Wider of KText %d and %d is %t", most, other, most > other)
			}
		}
	}
	for _, most := range []int{1, 2, 255, 256, 257, 999, 1000} {
		for other := 1; other <= 1000; other++ {
			if Wider(pick(most), pick(other)) != (most <= other) {
				t.Errorf("Wider of KPick %d and %d is %t", most, other, most > other)
			}
		}
	}
	bounds := []int{-edge, 1 - edge, -1 << 32, -1, 0, 1, 1 << 32, edge - 1, edge}
	for i, lo := range bounds {
		for j := range bounds[i:] {
			for k, low := range bounds {
				for l := range bounds[k:] {
					a, b := whole(lo, bounds[i+j]), whole(low, bounds[k+l])
					if want := k <= i && i+j <= k+l; Wider(a, b) != want {
						t.Errorf("Wider(%+v, %+v) is %t", a, b, !want)
					}
				}
			}
		}
	}
}

// P12.2: the same bounds, but another kind, or an ID out of bounds.
func TestWiderOfOtherKinds(t *testing.T) {
	l := []api.Field{whole(0, 0), whole(0, 1), boolean(), pick(1), pick(2), text(0), text(1), text(2)}
	for _, a := range l {
		for _, b := range l {
			if a.Kind != b.Kind && Wider(a, b) {
				t.Errorf("Wider(%+v, %+v) is true", a, b)
			}
		}
		for _, id := range append(odd(), 256) {
			b := a
			b.ID = id
			if Wider(a, b) || Wider(b, a) || Wider(b, b) {
				t.Errorf("Wider of %+v and the ID %d is true", a, id)
			}
		}
		if !Wider(a, a) {
			t.Errorf("Wider(%+v, the same) is false", a)
		}
	}
}

// P12.3
func TestLay(t *testing.T) {
	r := rand.New(rand.NewSource(2))
	for _, f := range append(fields(), small()...) {
		for _, v := range values(r, f) {
			if belongs(f, v) {
				checkLay(t, f, v, encoded(f, v), api.OK)
			} else {
				checkLay(t, f, v, nil, api.ErrValue)
			}
		}
	}
	for _, c := range []struct {
		f    api.Field
		v    api.Value
		want []byte
	}{
		{whole(-5, 250), api.Value{N: -4}, []byte{1}}, {whole(7, 7), api.Value{N: 7}, nil}, {whole(-edge, edge), api.Value{N: edge}, []byte{2, 0, 0, 0, 0, 0}},
		{whole(-edge, edge), api.Value{N: -edge}, []byte{0, 0, 0, 0, 0, 0}}, {whole(0, edge), api.Value{N: 0x0102030405}, []byte{0, 1, 2, 3, 4, 5}},
		{boolean(), api.Value{N: 0}, []byte{0}}, {boolean(), api.Value{N: 1}, []byte{1}}, {pick(1), api.Value{}, nil}, {pick(1000), api.Value{N: 999}, []byte{3, 231}}, {pick(257), api.Value{N: 1}, []byte{0, 1}},
		{text(0), api.Value{}, []byte{0}}, {text(3), api.Value{S: "\xFFb"}, []byte{2, 255, 98}},
	} {
		checkLay(t, c.f, c.v, c.want, api.OK)
	}
}

// P12.3: no bytes, every byte, and every two bytes.
func TestTakeOfTwoBytes(t *testing.T) {
	for _, f := range []api.Field{
		boolean(), pick(1), pick(2), pick(5), pick(255), pick(256), pick(257), pick(1000), text(0), text(1), text(2), text(5), text(32),
		whole(3, 3), whole(-1, 0), whole(-4, 5), whole(-3, 252), whole(-3, 253), whole(10, 300), whole(-edge, 65535-edge), whole(edge-65536, edge), whole(-edge, edge),
	} {
		checkDecoded(t, f, nil)
		for x := range 256 {
			checkDecoded(t, f, []byte{byte(x)})
			for y := range 256 {
				checkDecoded(t, f, []byte{byte(x), byte(y)})
			}
		}
	}
}

// anyBytes returns bytes that nearly are the encoding of a value of a field, or any bytes.
func anyBytes(r *rand.Rand, f api.Field) []byte {
	b := big(maximum(f)+r.Intn(5)-2, width(maximum(f)))
	if f.Kind == 4 {
		n := max(0, f.Most+r.Intn(4)-2)
		b = append([]byte{byte(n)}, anyText(r, n)...)
	}
	switch r.Intn(4) {
	case 0:
		b = b[:r.Intn(len(b)+1)]
	case 1:
		b = append(b, anyText(r, r.Intn(8))...)
	case 2:
		b = []byte(anyText(r, r.Intn(40)))
	}
	return b
}

// P12.3
func TestTake(t *testing.T) {
	r := rand.New(rand.NewSource(3))
	seen := map[api.Errno]int{}
	for _, f := range append(fields(), small()...) {
		for range 60 {
			seen[checkDecoded(t, f, anyBytes(r, f))]++
		}
	}
	for _, e := range []api.Errno{api.OK, api.ErrShort, api.ErrValue} {
		if seen[e] < 2000 {
			t.Errorf("error %d was wanted %d times", e, seen[e])
		}
	}
}

// P12.3: the order of the errors, and the bounds of each.
func TestTakeErrors(t *testing.T) {
	for _, c := range []struct {
		f    api.Field
		b    string
		want api.Errno
	}{
		{text(3), "", api.ErrShort}, {text(3), "\x04", api.ErrValue}, {text(3), "\x04abcd", api.ErrValue}, {text(3), "\x03", api.ErrShort}, {text(3), "\x03ab", api.ErrShort}, {text(3), "\xFFa", api.ErrValue},
		{text(0), "", api.ErrShort}, {text(0), "\x01", api.ErrValue}, {text(0), "\x01a", api.ErrValue}, {text(32), "\x21", api.ErrValue}, {text(32), "\x20", api.ErrShort},
		{boolean(), "", api.ErrShort}, {boolean(), "\x02", api.ErrValue}, {boolean(), "\xFF\x00", api.ErrValue},
		{pick(5), "", api.ErrShort}, {pick(5), "\x05", api.ErrValue}, {pick(257), "\x01", api.ErrShort}, {pick(257), "\xFF", api.ErrShort}, {pick(257), "\x01\x01", api.ErrValue}, {pick(1000), "\x03\xE8", api.ErrValue},
		{whole(-5, 9), "", api.ErrShort}, {whole(-5, 9), "\x0F", api.ErrValue}, {whole(0, 1<<16), "\xFF\xFF", api.ErrShort}, {whole(0, 1<<16), "\x01\x00\x01", api.ErrValue},
		{whole(-edge, edge), "\xFF\xFF\xFF\xFF\xFF", api.ErrShort}, {whole(-edge, edge), "\x02\x00\x00\x00\x00\x01", api.ErrValue}, {whole(-edge, edge), "\xFF\xFF\xFF\xFF\xFF\xFF", api.ErrValue},
	} {
		checkTake(t, c.f, []byte(c.b), api.Value{}, 0, c.want)
	}
}

// P12.4: what follows an encoded value does not matter, and the encoding is as long as it may be.
func TestRoundTrip(t *testing.T) {
	r := rand.New(rand.NewSource(4))
	for _, f := range append(fields(), small()...) {
		longest := 0
		for _, v := range values(r, f) {
			b, e := Lay(f, v)
			if e != api.OK {
				continue
			}
			longest = max(longest, len(b))
			for _, more := range []string{"", "\x00", "\x01", "\xFF", "\xFF\xFF\xFF\xFF\xFF\xFF\xFF\xFF", string(b), anyText(r, 40)} {
				checkTake(t, f, append(slices.Clone(b), more...), v, len(b), api.OK)
			}
		}
		if longest != Size(f) {
			t.Errorf("of values of %+v the longest encoding has %d bytes, and Size is %d", f, longest, Size(f))
		}
	}
}

// P12.4: different values have different encodings.
func TestDifferentEncodings(t *testing.T) {
	for _, f := range append(small(), text(5)) {
		seen := map[string]api.Value{}
		for _, v := range every(f) {
			b, e := Lay(f, v)
			if w, is := seen[string(b)]; is || e != api.OK {
				t.Errorf("Lay(%+v, %#v) is %d, error %d, as for %#v", f, v, b, e, w)
			}
			seen[string(b)] = v
			checkTake(t, f, b, v, len(b), api.OK)
		}
	}
}

// A value that was decoded has the encoding that was read (P12.3: the widths are fixed).
func TestBackAndForth(t *testing.T) {
	r := rand.New(rand.NewSource(5))
	for _, f := range fields() {
		for range 20 {
			b := anyBytes(r, f)
			if v, n, e := Take(f, b); e == api.OK {
				checkLay(t, f, v, b[:n], api.OK)
			}
		}
	}
}

// R3: arguments and their spare capacity keep their values, and results are new memory.
func TestMemory(t *testing.T) {
	f := text(5)
	b, _ := Lay(f, api.Value{S: "abc"})
	c, _ := Lay(f, api.Value{S: "abc"})
	clear(b)
	if string(c) != "\x03abc" {
		t.Errorf("the encoding has changed with another one: %d", c)
	}

	room := []byte("\x02ab\x02cdefgh")
	v, n, _ := Take(f, room[3:6])
	if string(room) != "\x02ab\x02cdefgh" {
		t.Errorf("Take has changed its argument: %q", room)
	}
	clear(room)
	if v.S != "cd" || n != 3 {
		t.Errorf("the value has changed with the bytes: %+v, %d", v, n)
	}
	// The bytes behind the end of the slice are there in memory, but not in it.
	room = []byte("\x02ab")
	checkTake(t, f, room[:2], api.Value{}, 0, api.ErrShort)
	checkTake(t, f, room[:0], api.Value{}, 0, api.ErrShort)
	checkTake(t, whole(0, 1000), room[:1], api.Value{}, 0, api.ErrShort)
}
