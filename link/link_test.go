package link

import (
	"bytes"
	"encoding/binary"
	"math"
	"math/rand"
	"slices"
	"strings"
	"testing"

	"instar/api"
	"instar/schema"
	"instar/step"
)

func whole(id, lo, hi int) api.Field { return api.Field{ID: id, Kind: 1, Lo: lo, Hi: hi} }

func boolean(id int) api.Field { return api.Field{ID: id, Kind: 2} }

func pick(id, most int) api.Field { return api.Field{ID: id, Kind: 3, Most: most} }

func text(id, most int) api.Field { return api.Field{ID: id, Kind: 4, Most: most} }

func form(id int, l ...api.Field) api.Form { return api.Form{ID: id, Fields: l} }

func version(n int, l ...api.Form) api.Schema { return api.Schema{Version: n, Forms: l} }

// forms returns n forms with IDs from first on.
func forms(n, first int) []api.Form {
	l := []api.Form{}
	for i := range n {
		l = append(l, form(first+i, boolean(i), text(9, i)))
	}
	return l
}

// ends returns n equal steps.
func ends(n int) []api.Step { return slices.Repeat([]api.Step{{Op: 10, Form: 7}}, n) }

// odd returns numbers that an overflow, or a conversion to fewer bits, could bring into bounds.
func odd() []int {
	return []int{math.MinInt, math.MinInt + 1, math.MinInt32, -1 << 32, 1 - 1<<32, -65536, -65535, -256, -255, -2, -1,
		1 << 16, 1<<16 + 1, 1<<16 + 300, math.MaxInt32, math.MaxUint32, 1 << 32, 1<<32 + 1, 1 << 62, math.MaxInt - 1, math.MaxInt}
}

// goodSchemas returns valid schemas, the greatest ones among them.
func goodSchemas() []api.Schema {
	return []api.Schema{version(1), version(2), {Version: 65535, Forms: []api.Form{}}, version(127), version(128), version(300, forms(8, 0)...), version(9, forms(8, 193)...), version(4, form(7, boolean(1))),
		version(16384, form(0, whole(4, -1<<40, 1<<40), text(2, 9)), form(6, pick(4, 3)), form(200, text(1, 32), text(255, 30)))}
}

// poorSchemas returns schemas that are not valid.
func poorSchemas() []api.Schema {
	return []api.Schema{{}, version(0, form(7, boolean(1))), version(65536), version(-1), version(math.MinInt), version(1 << 32), version(9, forms(9, 0)...), version(9, form(7, boolean(1)), form(7, boolean(1))), version(9, form(7, boolean(1)), form(6, boolean(1))),
		version(9, form(201, boolean(1))), version(9, form(-1, boolean(1))), version(9, form(7)), version(9, form(7, boolean(256))), version(9, form(7, boolean(1), boolean(1))), version(9, form(7, text(1, 32), text(2, 31))), version(9, form(6, boolean(1)), form(7, whole(1, 1, 0)))}
}

// goodSteps returns valid steps, one at least with each Op.
func goodSteps() []api.Step {
	l := []api.Step{{Op: 21, Form: 7, Field: 9}, {Op: 2, Form: 7, Field: 9, V: api.Value{N: -1 << 40, S: "ab"}}, {Op: 4, Form: 7, Field: 3, A: -2, B: 5}, {Op: 24, Form: 7, Field: 3, A: 2, B: -5, F: whole(3, 1, 2)},
		{Op: 5, Form: 7, Field: 3, A: 5, T: []int{4, 0}}, {Op: 25, Form: 7, Field: 3, T: []int{4, 0, 999}}, {Op: 6, Form: 7, Field: 3, A: 300, To: 4}, {Op: 26, Form: 200, Field: 255, A: 1 << 20, To: 4, F: whole(255, 0, 9)}}
	for i := range 2 {
		l = append(l, api.Step{Op: []int{1, 22}[i], Form: 7, Place: 3, F: text(9, 32), V: api.Value{S: strings.Repeat("\xff", 32)}}, api.Step{Op: []int{3, 23}[i], Form: 7, Field: 3, F: whole(3, -1<<40, 1<<40)}, api.Step{Op: []int{7, 27}[i], Form: 200, Field: 255, Place: 8},
			api.Step{Op: []int{8, 28}[i], Form: 7, Field: 3, To: 4}, api.Step{Op: []int{9, 30}[i], Form: 7, Fields: []api.Field{boolean(1), text(4, 3), pick(200, 1000)}}, api.Step{Op: []int{10, 29}[i], Form: 7})
	}
	return l
}

// poorSteps returns steps that are not valid.
func poorSteps() []api.Step {
	return []api.Step{{}, {Op: 11}, {Op: 31}, {Op: -1}, {Op: 10, Form: 201}, {Op: 10, Form: -1}, {Op: 10, Field: 1}, {Op: 21, Field: 256}, {Op: 7, Place: 9}, {Op: 8, Field: 3, To: 3}, {Op: 1, F: whole(9, 0, 9), V: api.Value{N: 10}},
		{Op: 3, Field: 1, F: boolean(2)}, {Op: 4}, {Op: 5, A: 2, T: []int{2}}, {Op: 25}, {Op: 6, To: 1, A: 1}, {Op: 9}, {Op: 10, T: []int{1}}}
}

// valid reports whether a link is valid, as the chapter defines it.
func valid(x api.Link) bool {
	for _, l := range [][]api.Step{x.On, x.Back} {
		if len(l) > 40 {
			return false
		}
		for _, t := range l {
			if !step.Right(t) {
				return false
			}
		}
	}
	return x.From >= 1 && x.From <= 65535 && x.From != x.To.Version && schema.Right(x.To)
}

// rights returns valid links.
func rights() []api.Link {
	all := goodSteps()
	l := []api.Link{{From: 3, To: version(4), On: ends(40), Back: ends(40)}, {From: 65535, To: version(1), On: all, Back: ends(1)}, {From: 1, To: version(65535), On: []api.Step{}, Back: all}, {From: 300, To: version(44), On: ends(39), Back: ends(2)}}
	for i, s := range goodSchemas() {
		l = append(l, api.Link{From: 3, To: s}, api.Link{From: s.Version%65535 + 1, To: s, On: all[:i]}, api.Link{From: 5, To: s, Back: all[i : i+3]})
	}
	for i, t := range all {
		l = append(l, api.Link{From: 1 + i, To: version(70 + i), On: []api.Step{t}, Back: []api.Step{all[0], t}})
	}
	return l
}

// wrongs returns links that are not valid.
func wrongs() []api.Link {
	l := []api.Link{{}, {To: version(4)}, {From: 4, To: version(4)}, {From: 4, To: version(4, form(7, boolean(1))), On: ends(1), Back: ends(1)}, {From: 65536, To: version(4)}, {From: 3, To: version(4), On: ends(41)}, {From: 3, To: version(4), Back: ends(41)},
		{From: 3, To: version(4), On: ends(41), Back: ends(41)}, {From: 3, To: version(4), On: ends(1000)}, {From: 3, To: version(4), Back: ends(256)}}
	for _, n := range odd() {
		l = append(l, api.Link{From: n, To: version(4)}, api.Link{From: n, To: version(n)}, api.Link{From: 3, To: version(n)})
	}
	for _, s := range poorSchemas() {
		l = append(l, api.Link{From: 3, To: s}, api.Link{From: 300, To: s, On: ends(2), Back: ends(2)})
	}
	for _, t := range poorSteps() {
		for _, steps := range [][]api.Step{{t}, {t, {Op: 10}}, {{Op: 10}, t}, append(ends(39), t), append(ends(19), append([]api.Step{t}, ends(20)...)...)} {
			l = append(l, api.Link{From: 3, To: version(4), On: steps}, api.Link{From: 3, To: version(4), Back: steps}, api.Link{From: 3, To: version(4), On: ends(2), Back: steps}, api.Link{From: 3, To: version(4), On: steps, Back: ends(2)})
		}
	}
	return l
}

// equal reports whether two links are equal, part by part.
func equal(a, b api.Link) bool {
	return a.From == b.From && schema.Same(a.To, b.To) && equalSteps(a.On, b.On) && equalSteps(a.Back, b.Back)
}

func equalSteps(a, b []api.Step) bool {
	for i := range min(len(a), len(b)) {
		if !step.Same(a[i], b[i]) {
			return false
		}
	}
	return len(a) == len(b)
}

// empty reports whether a link is the zero value.
func empty(x api.Link) bool {
	return x.From == 0 && x.To.Version == 0 && x.To.Forms == nil && x.On == nil && x.Back == nil
}

// clone returns a copy of a link that shares no list with it.
func clone(x api.Link) api.Link {
	c := api.Link{From: x.From, To: version(x.To.Version), On: cloneSteps(x.On), Back: cloneSteps(x.Back)}
	for _, f := range x.To.Forms {
		c.To.Forms = append(c.To.Forms, form(f.ID, append([]api.Field{}, f.Fields...)...))
	}
	return c
}

func cloneSteps(l []api.Step) []api.Step {
	c := []api.Step{}
	for _, t := range l {
		t.T, t.Fields = append([]int{}, t.T...), append([]api.Field{}, t.Fields...)
		c = append(c, t)
	}
	return c
}

// laid returns a Count and Texts, as chapter 5 encodes them.
func laid(from uint64, texts ...string) []byte {
	b := binary.AppendUvarint(nil, from)
	for _, s := range texts {
		b = append(binary.AppendUvarint(b, uint64(len(s))), s...)
	}
	return b
}

// encoded returns the encoding of a valid link.
func encoded(x api.Link) []byte {
	to, _ := schema.Print(x.To)
	on, _ := step.Print(x.On)
	back, _ := step.Print(x.Back)
	return laid(uint64(x.From), string(to), string(on), string(back))
}

// reader decodes what chapter 5 defines, and stops at the first error.
type reader struct {
	b   []byte
	bad api.Errno
}

func (r *reader) count(most int) int {
	if r.bad != api.OK {
		return 0
	}
	x, n := binary.Uvarint(r.b)
	switch {
	case n > 1 && r.b[n-1] == 0, n < 0, n == 0 && len(r.b) >= 10, x > math.MaxInt:
		r.bad = api.ErrForm
	case n == 0:
		r.bad = api.ErrShort
	case x > uint64(most):
		r.bad = api.ErrMany
	default:
		r.b = r.b[n:]
		return int(x)
	}
	return 0
}

func (r *reader) text(most int) []byte {
	n := r.count(most)
	if n > len(r.b) {
		r.bad = api.ErrShort
	}
	if r.bad != api.OK {
		return nil
	}
	s := r.b[:n:n]
	r.b = r.b[n:]
	return s
}

// decoded returns what Parse must return.
func decoded(b []byte) (api.Link, api.Errno) {
	r := &reader{b: b}
	x := api.Link{From: r.count(65535)}
	to, on, back := r.text(131072), r.text(131072), r.text(131072)
	switch {
	case r.bad != api.OK:
		return api.Link{}, r.bad
	case len(r.b) > 0:
		return api.Link{}, api.ErrRest
	}
	var e api.Errno
	if x.To, e = schema.Parse(to); e != api.OK {
		return api.Link{}, e
	}
	if x.On, e = step.Parse(on); e != api.OK {
		return api.Link{}, e
	}
	if x.Back, e = step.Parse(back); e != api.OK {
		return api.Link{}, e
	}
	if !valid(x) {
		return api.Link{}, api.ErrArg
	}
	return x, api.OK
}

// P21.1: valid links, and those that are not.
func TestRight(t *testing.T) {
	for _, x := range rights() {
		if !valid(x) || !Right(x) {
			t.Errorf("Right(%v) is false", x)
		}
	}
	for _, x := range wrongs() {
		if valid(x) || Right(x) {
			t.Errorf("Right(%v) is true", x)
		}
	}
}

// P21.1: every From and every Version near their bounds, and both together.
func TestVersions(t *testing.T) {
	for n := -3; n <= 65540; n++ {
		fits := n >= 1 && n <= 65535
		if Right(api.Link{From: n, To: version(300)}) != (fits && n != 300) {
			t.Errorf("From %d", n)
		}
		if Right(api.Link{From: 300, To: version(n)}) != (fits && n != 300) {
			t.Errorf("Version %d", n)
		}
		if Right(api.Link{From: n, To: version(n)}) {
			t.Errorf("From and Version %d", n)
		}
		if Right(api.Link{From: n, To: version(n + 1)}) != (fits && n < 65535) || Right(api.Link{From: n + 1, To: version(n)}) != (fits && n < 65535) {
			t.Errorf("versions %d and %d", n, n+1)
		}
	}
}

// P21.1: every number of steps on and of steps back near its bound, and one wrong step anywhere among as many as there may be.
func TestSteps(t *testing.T) {
	for n := range 90 {
		for m := range 90 {
			if Right(api.Link{From: 3, To: version(4), On: ends(n), Back: ends(m)}) != (n <= 40 && m <= 40) {
				t.Errorf("%d steps on and %d back", n, m)
			}
		}
	}
	for i := range 40 {
		l := ends(40)
		l[i].Form = 201
		if Right(api.Link{From: 3, To: version(4), On: l, Back: ends(40)}) || Right(api.Link{From: 3, To: version(4), On: ends(40), Back: l}) {
			t.Errorf("step %d is not valid, but the link is", i)
		}
		l[i].Form = 200
		if !Right(api.Link{From: 3, To: version(4), On: l, Back: ends(40)}) || !Right(api.Link{From: 3, To: version(4), On: ends(40), Back: l}) {
			t.Errorf("step %d is valid, but the link is not", i)
		}
	}
}

// changedSteps returns the lists of steps that differ from l in one member of one step, or in one step more or fewer, or exchanged.
func changedSteps(l []api.Step) [][]api.Step {
	all := [][]api.Step{append(cloneSteps(l), api.Step{}), append(cloneSteps(l), api.Step{Op: 10}), append([]api.Step{{}}, cloneSteps(l)...), append([]api.Step{{Op: 10, Form: 99}}, cloneSteps(l)...)}
	for i := range l {
		for k := range 7 {
			c := cloneSteps(l)
			*[]*int{&c[i].Op, &c[i].Form, &c[i].Place, &c[i].B, &c[i].F.Hi, &c[i].V.N, &c[i].To}[k] += 1 << (9 * k)
			all = append(all, c)
		}
		c, d, e := cloneSteps(l), cloneSteps(l), cloneSteps(l)
		c[i].T, d[i].Fields, e[i].V.S = append(c[i].T, 0), append(d[i].Fields, api.Field{}), e[i].V.S+"a"
		all = append(all, c, d, e, slices.Delete(cloneSteps(l), i, i+1))
		if i > 0 && !step.Same(l[i-1], l[i]) {
			c := cloneSteps(l)
			slices.Reverse(c[i-1 : i+1])
			all = append(all, c)
		}
	}
	return all
}

// changed returns links that differ from x in one place.
func changed(x api.Link) []api.Link {
	l := []api.Link{}
	add := func(change func(c *api.Link)) {
		c := clone(x)
		change(&c)
		l = append(l, c)
	}
	for _, by := range []int{-1, 1, 256, 1 << 16, 1 << 32, math.MinInt} {
		add(func(c *api.Link) { c.From += by })
		add(func(c *api.Link) { c.To.Version += by })
		for i, f := range x.To.Forms {
			add(func(c *api.Link) { c.To.Forms[i].ID += by })
			for k := range f.Fields {
				add(func(c *api.Link) { c.To.Forms[i].Fields[k].ID += by })
				add(func(c *api.Link) { c.To.Forms[i].Fields[k].Lo += by })
			}
		}
	}
	add(func(c *api.Link) { c.To.Forms = append(c.To.Forms, form(99, boolean(1))) })
	if len(x.To.Forms) > 0 {
		add(func(c *api.Link) { c.To.Forms = c.To.Forms[1:] })
	}
	for _, steps := range changedSteps(x.On) {
		add(func(c *api.Link) { c.On = steps })
	}
	for _, steps := range changedSteps(x.Back) {
		add(func(c *api.Link) { c.Back = steps })
	}
	if !equalSteps(x.On, x.Back) {
		add(func(c *api.Link) { c.On, c.Back = c.Back, c.On })
	}
	return l
}

// P21.1: links, valid or not, are the same as their copies, and differ from all that are changed in one place.
func TestSame(t *testing.T) {
	for _, x := range slices.Concat(rights(), wrongs()) {
		if !Same(x, clone(x)) || !Same(clone(x), x) || !Same(x, x) {
			t.Errorf("%v is not the same as its copy", x)
		}
		if len(x.On)+len(x.Back) > 100 {
			continue
		}
		for _, c := range changed(x) {
			if Same(x, c) || Same(c, x) {
				t.Errorf("%v and %v are the same", x, c)
			}
		}
	}
	all := rights()
	for i, a := range all {
		for k, b := range all {
			if Same(a, b) != equal(a, b) || i == k && !Same(a, b) {
				t.Errorf("Same(%v, %v) = %v", a, b, !equal(a, b))
			}
		}
	}
	none, nothing := api.Link{From: 3, To: version(4)}, api.Link{From: 3, To: api.Schema{Version: 4, Forms: []api.Form{}}, On: []api.Step{}, Back: []api.Step{}}
	if !Same(none, nothing) || !Same(nothing, none) {
		t.Error("an empty list is not the same as nil")
	}
}

// sample is a link and its encoding, byte by byte.
type sample struct {
	want string
	x    api.Link
}

func samples() []sample {
	return []sample{
		{"\x01\x02\x02\x00\x01\x00\x01\x00", api.Link{From: 1, To: version(2)}},
		{"\x02\x02\x01\x00\x01\x00\x01\x00", api.Link{From: 2, To: version(1), On: []api.Step{}, Back: []api.Step{}}},
		{"\xff\xff\x03\x04\xfe\xff\x03\x00\x01\x00\x01\x00", api.Link{From: 65535, To: version(65534)}},
		{"\x80\x01\x03\xac\x02\x00\x01\x00\x01\x00", api.Link{From: 128, To: version(300)}},
		{"\x03\x06\x04\x01\x07\x01\x03\x02\x01\x00\x01\x00", api.Link{From: 3, To: version(4, form(7, boolean(3)))}},
		{"\x03\x02\x04\x00\x03\x01\x0a\x07\x01\x00", api.Link{From: 3, To: version(4), On: []api.Step{{Op: 10, Form: 7}}}},
		{"\x03\x02\x04\x00\x01\x00\x03\x01\x1d\x07", api.Link{From: 3, To: version(4), Back: []api.Step{{Op: 29, Form: 7}}}},
		{"\x03\x02\x04\x00\x0a\x02\x0a\x07\x05\x08\x03\x05\x02\x04\x00\x05\x01\x08\x07\x03\x04",
			api.Link{From: 3, To: version(4), On: []api.Step{{Op: 10, Form: 7}, {Op: 5, Form: 8, Field: 3, A: 5, T: []int{4, 0}}}, Back: []api.Step{{Op: 8, Form: 7, Field: 3, To: 4}}}},
		{"\x03\x02\x04\x00\x51\x28" + strings.Repeat("\x0a\x07", 40) + "\x4f\x27" + strings.Repeat("\x0a\x07", 39), api.Link{From: 3, To: version(4), On: ends(40), Back: ends(39)}},
	}
}

// P21.2: the bytes of links, which Parse reads back.
func TestPrint(t *testing.T) {
	for _, c := range samples() {
		if b, e := Print(c.x); string(b) != c.want || e != api.OK {
			t.Errorf("Print(%v) = %x, %d, not %x", c.x, b, e, c.want)
		}
		if x, e := Parse([]byte(c.want)); !equal(x, c.x) || e != api.OK {
			t.Errorf("Parse(%x) = %v, %d, not %v", c.want, x, e, c.x)
		}
	}
	for _, x := range rights() {
		if b, e := Print(x); !bytes.Equal(b, encoded(x)) || e != api.OK {
			t.Errorf("Print(%v) = %x, %d, not %x", x, b, e, encoded(x))
		}
	}
}

// P21.2: there is no encoding of a link that is not valid, and ErrArg is the one error of Print, with too many steps also.
func TestPrintErrors(t *testing.T) {
	for _, x := range wrongs() {
		if b, e := Print(x); len(b) != 0 || e != api.ErrArg {
			t.Errorf("Print(%v) = %x, %d, not ErrArg", x, b, e)
		}
	}
}

// checkParse compares Parse with the decoder written from the definitions, and a decoded link's encoding with what was read (P21.2, P21.3).
func checkParse(t *testing.T, b []byte) api.Errno {
	t.Helper()
	x, e := Parse(b)
	want, bad := decoded(b)
	if e != bad || !equal(x, want) || e != api.OK && !empty(x) {
		t.Fatalf("Parse(%x) = %v, %d, not %v, %d", b, x, e, want, bad)
	}
	if e != api.OK {
		return e
	}
	if again, e := Print(x); e != api.OK || !bytes.Equal(again, b) {
		t.Fatalf("Print(%v) = %x, %d, not %x", x, again, e, b)
	}
	return e
}

// P21.2: each error of Parse, and which one comes first.
func TestParseErrors(t *testing.T) {
	tests := []struct {
		b    string
		want api.Errno
	}{
		// The decoder's errors: at each item, and the first of several.
		{"", api.ErrShort}, {"\x01", api.ErrShort}, {"\x01\x02\x02\x00", api.ErrShort}, {"\x01\x02\x02\x00\x01\x00", api.ErrShort}, {"\x01\x02\x02\x00\x01\x00\x01", api.ErrShort}, {"\x01\x02\x02\x00\x01\x00\x02\x00", api.ErrShort}, {"\x80", api.ErrShort}, {"\x01\x82", api.ErrShort},
		{"\x81\x00\x02\x02\x00\x01\x00\x01\x00", api.ErrForm}, {"\x01\x82\x00\x02\x00\x01\x00\x01\x00", api.ErrForm}, {"\x01\x02\x02\x00\x81\x00\x00\x01\x00", api.ErrForm}, {"\x01\x02\x02\x00\x01\x00\x81\x00\x00", api.ErrForm},
		{"\x80\x80\x04\x02\x02\x00\x01\x00\x01\x00", api.ErrMany}, {"\x80\x80\x04", api.ErrMany}, {"\x80\x80\x04\x81\x00", api.ErrMany}, {"\x01\x81\x80\x08\x80\x00", api.ErrMany}, {"\x01\x05\x02", api.ErrShort}, {"\x81\x00\xff\xff\xff\x01", api.ErrForm}, {"\x01\x02\x02\x00\x81\x80\x08\x81\x00", api.ErrMany}, {"\x01\x02\x02\x00\x05\x81\x00", api.ErrShort},
		// Unexpected bytes.
		{"\x01\x02\x02\x00\x01\x00\x01\x00\x00", api.ErrRest}, {"\x01\x02\x02\x00\x01\x00\x01\x00\x80", api.ErrRest}, {"\x01\x00\x00\x00\x00", api.ErrRest}, {"\x01\x02\x02\x09\x01\x29\x01\x29\x00", api.ErrRest},
		// The decoder's errors come before those of what the Texts contain, and those before ErrArg.
		{"\x01\x02\x02\x09\x01\x00\x01", api.ErrShort}, {"\x01\x02\x02\x09\x81\x00", api.ErrForm}, {"\x01\x02\x02\x09\x01\x29\x81\x80\x08", api.ErrMany}, {"\x00\x02\x02\x09\x01\x00\x01\x00", api.ErrMany}, {"\x00\x00\x01\x29\x01\x00", api.ErrShort}, {"\x02\x02\x02\x00\x01\x29\x01\x00", api.ErrMany}, {"\x02\x02\x02\x00\x01\x00\x02\x00\x00", api.ErrRest}, {"\x00\x02\x02\x00\x01\x00\x00", api.ErrShort},
		// Links that are not valid.
		{"\x00\x02\x02\x00\x01\x00\x01\x00", api.ErrArg}, {"\x02\x02\x02\x00\x01\x00\x01\x00", api.ErrArg}, {"\x01\x02\x01\x00\x01\x00\x01\x00", api.ErrArg}, {"\xff\xff\x03\x04\xff\xff\x03\x00\x01\x00\x01\x00", api.ErrArg}, {"\xff\xff\x03\x02\x01\x00\x01\x00\x01\x00", api.OK},
	}
	for _, c := range tests {
		if x, e := Parse([]byte(c.b)); e != c.want || e != api.OK && !empty(x) {
			t.Errorf("Parse(%x) = %v, %d, not %d", c.b, x, e, c.want)
		}
		checkParse(t, []byte(c.b))
	}
	if x, e := Parse(nil); !empty(x) || e != api.ErrShort {
		t.Errorf("Parse(nil) = %v, %d", x, e)
	}
}

// P21.2: of every three errors that the parts can have, the first is returned, and ErrArg for the link if there is none.
func TestParts(t *testing.T) {
	type part struct {
		s string
		e api.Errno
	}
	tos := []part{{"\x02\x00", api.OK}, {"", api.ErrShort}, {"\x82\x00", api.ErrForm}, {"\x02\x09", api.ErrMany}, {"\x02\x00\x00", api.ErrRest}, {"\x00\x00", api.ErrArg}, {"\x02\x01\x07\x00", api.ErrArg}}
	lists := []part{{"\x00", api.OK}, {"\x01\x0a\x07", api.OK}, {"", api.ErrShort}, {"\x80\x00", api.ErrForm}, {"\x29", api.ErrMany}, {"\x00\x00", api.ErrRest}, {"\x01\x0b", api.ErrArg}, {"\x01\x08\x07\x03\x03", api.ErrArg}}
	for _, to := range tos {
		for _, on := range lists {
			for _, back := range lists {
				for _, from := range []uint64{0, 1, 2, 3, 65535} {
					want := api.OK
					for _, e := range []api.Errno{to.e, on.e, back.e} {
						if want == api.OK {
							want = e
						}
					}
					if want == api.OK && (from == 0 || from == 2) {
						want = api.ErrArg
					}
					b := laid(from, to.s, on.s, back.s)
					if x, e := Parse(b); e != want || e != api.OK && !empty(x) {
						t.Errorf("Parse(%x) = %v, %d, not %d", b, x, e, want)
					}
					if e := checkParse(t, append(b, 0)); e != api.ErrRest {
						t.Errorf("Parse(%x and 0) = %d, not ErrRest", b, e)
					}
				}
			}
		}
	}
}

// P21.2: the limits of the Count and of the Texts.
func TestLimits(t *testing.T) {
	for n := uint64(0); n <= 65540; n++ {
		want := api.OK
		if n == 0 || n == 300 {
			want = api.ErrArg
		} else if n > 65535 {
			want = api.ErrMany
		}
		if x, e := Parse(laid(n, "\xac\x02\x00", "\x00", "\x00")); e != want || e == api.OK && x.From != int(n) {
			t.Errorf("From %d: %v, %d", n, x, e)
		}
	}
	for _, n := range []uint64{1 << 16, 1<<32 + 1, 1 << 62, math.MaxInt, 1 << 63, 1<<63 + 1, math.MaxUint64} {
		want := api.ErrMany
		if n > math.MaxInt {
			want = api.ErrForm
		}
		if _, e := Parse(laid(n, "\xac\x02\x00", "\x00", "\x00")); e != want {
			t.Errorf("From %d: %d", n, e)
		}
	}
	for i := range 3 {
		for _, n := range []int{131071, 131072, 131073, 131074, 200000, 1 << 20} {
			texts := []string{"\x02\x00", "\x00", "\x00"}
			before := laid(1, texts[:i]...)
			texts[i] += strings.Repeat("\x00", n-len(texts[i]))
			full, short := api.ErrRest, api.ErrShort // ErrRest is of what the Text contains
			if n > 131072 {
				full, short = api.ErrMany, api.ErrMany
			}
			if e := checkParse(t, laid(1, texts...)); e != full {
				t.Errorf("Text %d of %d bytes: %d, not %d", i, n, e, full)
			}
			if e := checkParse(t, binary.AppendUvarint(before, uint64(n))); e != short {
				t.Errorf("Text %d of %d bytes, of which there are none: %d, not %d", i, n, e, short)
			}
		}
	}
}

// randomSteps returns up to 40 valid steps, mostly few.
func randomSteps(r *rand.Rand) []api.Step {
	all, l := goodSteps(), []api.Step{}
	for range r.Intn(1 + r.Intn(41)) {
		t := all[r.Intn(len(all))]
		t.Form = r.Intn(201)
		l = append(l, t)
	}
	return l
}

// random returns a random link, almost always a valid one.
func random(r *rand.Rand) api.Link {
	all := goodSchemas()
	x := api.Link{From: 1 + r.Intn(1<<(1+r.Intn(15))), To: all[r.Intn(len(all))], On: randomSteps(r), Back: randomSteps(r)}
	x.To.Version = 1 + r.Intn(1<<(1+r.Intn(15)))
	return x
}

// P21.2, P21.3: what Parse reads of cut, extended and changed encodings, and of random bytes.
func TestParse(t *testing.T) {
	r := rand.New(rand.NewSource(212))
	seen := map[api.Errno]int{}
	links := append(rights(), samples()[4].x, samples()[7].x)
	for range 60 {
		links = append(links, random(r))
	}
	for _, x := range links {
		b := encoded(x)
		seen[checkParse(t, b)]++
		if len(b) > 150 {
			continue
		}
		for n := range b {
			seen[checkParse(t, b[:n])]++
			for _, x := range []byte{0, 1, 2, 3, 4, 10, 31, 127, 128, 255, b[n] - 1, b[n] + 1} {
				c := bytes.Clone(b)
				c[n] = x
				seen[checkParse(t, c)]++
			}
			seen[checkParse(t, slices.Insert(bytes.Clone(b), n, byte(r.Intn(5))))]++
			seen[checkParse(t, slices.Delete(bytes.Clone(b), n, n+1))]++
		}
		seen[checkParse(t, append(bytes.Clone(b), 0))]++
		seen[checkParse(t, append(bytes.Clone(b), b...))]++
	}
	for range 100000 {
		b := make([]byte, r.Intn(16))
		for i := range b {
			b[i] = []byte{0, 0, 1, 1, 2, 2, 3, 4, 7, 10, byte(r.Intn(31)), byte(r.Intn(256))}[r.Intn(12)]
		}
		seen[checkParse(t, b)]++
	}
	for _, e := range []api.Errno{api.OK, api.ErrShort, api.ErrRest, api.ErrArg, api.ErrMany, api.ErrForm} {
		if seen[e] < 100 {
			t.Errorf("error %d only %d times", e, seen[e])
		}
	}
}

// P21.3: valid links are decoded from their encodings.
func TestRoundTrip(t *testing.T) {
	r := rand.New(rand.NewSource(213))
	links := rights()
	for range 10000 {
		links = append(links, random(r))
	}
	count := 0
	for _, x := range links {
		b, e := Print(x)
		if !valid(x) {
			if e != api.ErrArg || len(b) != 0 {
				t.Fatalf("Print(%v) = %x, %d", x, b, e)
			}
			continue
		}
		count++
		if e != api.OK || !bytes.Equal(b, encoded(x)) {
			t.Fatalf("Print(%v) = %x, %d", x, b, e)
		}
		if got, e := Parse(b); e != api.OK || !equal(got, x) {
			t.Fatalf("Parse(Print(%v)) = %v, %d", x, got, e)
		}
	}
	if count < 8000 {
		t.Errorf("only %d links are valid", count)
	}
}

// P21.3: the link with the longest encoding is decoded from it.
func TestLongest(t *testing.T) {
	table := []int{}
	for i := range step.Most {
		table = append(table, 999-i)
	}
	fields := []api.Field{}
	for i := range 8 {
		fields = append(fields, whole(248+i, -1<<40, 1<<40))
	}
	on, back := slices.Repeat([]api.Step{{Op: 5, Form: 200, Field: 255, A: 1000, T: table}}, 40), slices.Repeat([]api.Step{{Op: 30, Form: 200, Fields: fields}}, 40)
	x := api.Link{From: 65535, To: version(65534), On: on, Back: back}
	for i := range 8 {
		x.To.Forms = append(x.To.Forms, form(193+i, fields...))
	}
	b, e := Print(x)
	if got, bad := Parse(b); e != api.OK || bad != api.OK || !bytes.Equal(b, encoded(x)) || !equal(got, x) {
		t.Errorf("%x, %d, then %d", b, e, bad)
	}
}

// R3: neither arguments nor their spare capacity are modified.
func TestArguments(t *testing.T) {
	table := append(make([]int, 0, 8), 2, 0)
	fields := append(make([]api.Field, 0, 8), boolean(1), text(4, 3))
	on := append(make([]api.Step, 0, 8), api.Step{Op: 5, Form: 7, Field: 3, A: 3, T: table}, api.Step{Op: 9, Form: 8, Fields: fields})
	back := append(make([]api.Step, 0, 8), api.Step{Op: 25, Form: 7, T: table})
	to := append(make([]api.Form, 0, 8), form(7, fields...))
	x := api.Link{From: 3, To: api.Schema{Version: 4, Forms: to}, On: on, Back: back}
	before := clone(x)
	Right(x)
	Same(x, x)
	b, _ := Print(x)
	if !equal(x, before) || !equalSteps(on[2:8], make([]api.Step, 6)) || !equalSteps(back[1:8], make([]api.Step, 7)) || !slices.Equal(table[2:8], make([]int, 6)) || !slices.Equal(fields[2:8], make([]api.Field, 6)) {
		t.Error("a link was modified")
	}
	if !schema.Same(api.Schema{Forms: to[1:8]}, api.Schema{Forms: make([]api.Form, 7)}) {
		t.Error("the spare capacity of forms was modified")
	}
	in := append(make([]byte, 0, len(b)+50), b...)
	Parse(in)
	if !bytes.Equal(in, b) || !bytes.Equal(in[len(b):len(b)+50], make([]byte, 50)) {
		t.Error("bytes were modified")
	}
}

// R3: results share no memory with arguments or with other results, nor two lists of one result.
func TestMemory(t *testing.T) {
	table, fields := []int{2, 0}, []api.Field{boolean(1), text(4, 3)}
	l := []api.Step{{Op: 5, Form: 7, Field: 3, A: 3, T: table}, {Op: 9, Form: 8, Fields: fields}, {Op: 2, V: api.Value{S: "ab"}}}
	x := api.Link{From: 3, To: version(4, form(7, fields...), form(8, fields...)), On: l, Back: l}
	want := clone(x)
	b, _ := Print(x)
	again, _ := Print(x)
	got, _ := Parse(b)
	other, _ := Parse(b)
	clear(b)
	if !bytes.Equal(again, encoded(x)) || !equal(got, x) {
		t.Error("an encoding shares memory")
	}
	got.To.Forms[0].Fields[0].ID = 99
	got.On[0].T[0], got.On[1].Fields[0].ID = 99, 99
	if !schema.Same(version(4, got.To.Forms[1]), version(4, want.To.Forms[1])) || !equalSteps(got.Back, want.Back) {
		t.Error("two lists of a link share memory")
	}
	got.Back[0].T[0], got.Back[1].Fields[0].ID = 99, 99
	clear(got.On[:cap(got.On)])
	clear(got.To.Forms[:cap(got.To.Forms)])
	if !equalSteps(got.Back[2:], want.Back[2:]) || !equal(other, want) || !equal(x, want) {
		t.Error("links share memory")
	}
}

// R3: what is behind the end of a slice does not belong to it.
func TestEnds(t *testing.T) {
	on, back := append(ends(40), api.Step{}), append(ends(1), api.Step{})
	if !Right(api.Link{From: 3, To: version(4), On: on[:40], Back: back[:1]}) || Right(api.Link{From: 3, To: version(4), On: on[:40], Back: back}) {
		t.Error("a list is read behind its end")
	}
	for _, c := range samples() {
		b := []byte(c.want + c.want)
		for n := range len(c.want) {
			if e := checkParse(t, b[:n]); e != api.ErrShort {
				t.Errorf("the first %d bytes of %x: %d", n, c.want, e)
			}
		}
		if e := checkParse(t, b[:len(c.want)]); e != api.OK {
			t.Errorf("%x with more behind its end: %d", c.want, e)
		}
	}
}
