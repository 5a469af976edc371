package schema

import (
	"bytes"
	"encoding/binary"
	"math"
	"math/rand"
	"slices"
	"strings"
	"testing"

	"instar/api"
)

func whole(id, lo, hi int) api.Field { return api.Field{ID: id, Kind: 1, Lo: lo, Hi: hi} }

func boolean(id int) api.Field { return api.Field{ID: id, Kind: 2} }

func pick(id, most int) api.Field { return api.Field{ID: id, Kind: 3, Most: most} }

func text(id, most int) api.Field { return api.Field{ID: id, Kind: 4, Most: most} }

func form(id int, fields ...api.Field) api.Form { return api.Form{ID: id, Fields: fields} }

func version(v int, forms ...api.Form) api.Schema { return api.Schema{Version: v, Forms: forms} }

// odd returns numbers that an overflow, or a conversion to fewer bits, could bring into bounds.
func odd() []int {
	return []int{math.MinInt, math.MinInt + 1, math.MinInt32, -1 << 32, 1 - 1<<32, -65536, -65535, -256, -255, -2, -1,
		256, 257, 1 << 16, 1<<16 + 1, math.MaxInt32, math.MaxUint32, 1 << 32, 1<<32 + 1, 1 << 62, math.MaxInt - 1, math.MaxInt}
}

// booleans returns n KBool fields with IDs from first on.
func booleans(n, first int) []api.Field {
	l := []api.Field{}
	for i := range n {
		l = append(l, boolean(first+i))
	}
	return l
}

// forms returns n forms with IDs from first on.
func forms(n, first int) []api.Form {
	l := []api.Form{}
	for i := range n {
		l = append(l, form(first+i, boolean(i), text(9, i)))
	}
	return l
}

// validField reports whether a field is valid, and size its Size, as chapter 12 defines them.
func validField(f api.Field) bool {
	if f.ID < 0 || f.ID > 255 {
		return false
	}
	switch f.Kind {
	case 1:
		return f.Lo >= -1<<40 && f.Lo <= f.Hi && f.Hi <= 1<<40 && f.Most == 0
	case 2:
		return f == boolean(f.ID)
	case 3:
		return f == pick(f.ID, f.Most) && f.Most >= 1 && f.Most <= 1000
	case 4:
		return f == text(f.ID, f.Most) && f.Most >= 0 && f.Most <= 32
	}
	return false
}

func size(f api.Field) int {
	if !validField(f) {
		return 0
	}
	n, top := 0, f.Hi-f.Lo
	switch f.Kind {
	case 2:
		return 1
	case 3:
		top = f.Most - 1
	case 4:
		return f.Most + 1
	}
	for ; top > 0; top /= 256 {
		n++
	}
	return n
}

// validForm reports whether a form is valid, and valid whether a schema is, as the chapter defines them.
func validForm(f api.Form) bool {
	total, ids := 0, map[int]bool{}
	for _, x := range f.Fields {
		if !validField(x) {
			return false
		}
		total += size(x)
		ids[x.ID] = true
	}
	return f.ID >= 0 && f.ID <= 200 && len(f.Fields) >= 1 && len(f.Fields) <= 8 && len(ids) == len(f.Fields) && total <= 64
}

func valid(s api.Schema) bool {
	for i, f := range s.Forms {
		if !validForm(f) || i > 0 && s.Forms[i-1].ID >= f.ID {
			return false
		}
	}
	return s.Version >= 1 && s.Version <= 65535 && len(s.Forms) <= 8
}

// equal reports whether two schemas are equal, member by member.
func equal(a, b api.Schema) bool {
	if a.Version != b.Version || len(a.Forms) != len(b.Forms) {
		return false
	}
	for i, f := range a.Forms {
		g := b.Forms[i]
		if f.ID != g.ID || len(f.Fields) != len(g.Fields) {
			return false
		}
		for k := range f.Fields {
			if f.Fields[k] != g.Fields[k] {
				return false
			}
		}
	}
	return true
}

// clone returns a copy of a schema that shares no memory with it.
func clone(s api.Schema) api.Schema {
	c := version(s.Version)
	for _, f := range s.Forms {
		c.Forms = append(c.Forms, form(f.ID, append([]api.Field{}, f.Fields...)...))
	}
	return c
}

// encoded returns the bytes of a schema, valid or not, as the chapter lists them.
func encoded(s api.Schema) []byte {
	b := counts(s.Version, len(s.Forms))
	for _, f := range s.Forms {
		b = append(b, counts(f.ID, len(f.Fields))...)
		for _, x := range f.Fields {
			b = append(b, counts(x.ID, x.Kind)...)
			if x.Kind == 1 {
				b = binary.AppendVarint(binary.AppendVarint(b, int64(x.Lo)), int64(x.Hi))
			}
			if x.Kind == 3 || x.Kind == 4 {
				b = append(b, counts(x.Most)...)
			}
		}
	}
	return b
}

func counts(l ...int) []byte {
	b := []byte{}
	for _, n := range l {
		b = binary.AppendUvarint(b, uint64(n))
	}
	return b
}

// reader decodes what the chapter defines, and stops at the first error.
type reader struct {
	b   []byte
	bad api.Errno
}

// varint reads the shortest varint of a number of 64 bits.
func (r *reader) varint() uint64 {
	if r.bad != api.OK {
		return 0
	}
	x, n := binary.Uvarint(r.b)
	switch {
	case n > 1 && r.b[n-1] == 0, n < 0:
		r.bad = api.ErrForm
		return 0
	case n == 0:
		r.bad = api.ErrShort
		if len(r.b) >= 10 {
			r.bad = api.ErrForm
		}
		return 0
	}
	r.b = r.b[n:]
	return x
}

func (r *reader) count(most int) int {
	x := r.varint()
	switch {
	case x > math.MaxInt:
		r.bad = api.ErrForm
	case x > uint64(most):
		r.bad = api.ErrMany
	default:
		return int(x)
	}
	return 0
}

func (r *reader) num() int {
	x := r.varint()
	if x%2 == 1 {
		return -int(x/2) - 1
	}
	return int(x / 2)
}

// decoded returns what Parse must return.
func decoded(b []byte) (api.Schema, api.Errno) {
	r := &reader{b: b}
	s := version(r.count(65535))
	for n := r.count(8); n > 0; n-- {
		f := form(r.count(200))
		for m := r.count(8); m > 0; m-- {
			x := api.Field{ID: r.count(255)}
			switch x.Kind = r.count(4); x.Kind {
			case 1:
				x.Lo = r.num()
				x.Hi = r.num()
			case 3, 4:
				x.Most = r.count(1000)
			}
			f.Fields = append(f.Fields, x)
		}
		s.Forms = append(s.Forms, f)
	}
	switch {
	case r.bad != api.OK:
		return api.Schema{}, r.bad
	case len(r.b) > 0:
		return api.Schema{}, api.ErrRest
	case !valid(s):
		return api.Schema{}, api.ErrArg
	}
	return s, api.OK
}

// fineForms returns valid forms.
func fineForms() []api.Form {
	return []api.Form{
		form(0, boolean(0)), form(200, boolean(255)), form(7, text(1, 0)), form(7, pick(1, 1)), form(7, pick(1, 1000)), form(7, whole(1, 5, 5)),
		form(7, whole(1, -1<<40, 1<<40)), form(7, whole(1, 1<<40, 1<<40)), form(7, whole(1, -1<<40, -1<<40)),
		form(7, booleans(8, 0)...), form(7, booleans(8, 248)...), form(7, boolean(9), boolean(3), text(8, 32)),
		form(7, text(1, 32), text(2, 30)), form(7, text(2, 30), text(1, 32)), form(7, text(2, 32), text(1, 29), boolean(0)), form(7, text(2, 32), text(1, 29), pick(3, 256)),
		form(7, text(2, 32), text(1, 30), pick(0, 1), whole(4, 8, 8)), form(7, text(2, 32), whole(1, -1<<40, 1<<40), text(5, 24)),
		form(7, text(0, 7), text(1, 7), text(2, 7), text(3, 7), text(4, 7), text(5, 7), text(6, 7), text(7, 7)),
		form(7, whole(10, 0, 1), boolean(11), pick(12, 2), text(13, 3), whole(14, -300, 300), boolean(15), pick(16, 257), text(17, 0)),
	}
}

// poorFields returns invalid fields.
func poorFields() []api.Field {
	l := []api.Field{{}, {ID: 1}, {ID: 1, Kind: 5}, {ID: 1, Kind: -1}, {ID: 1, Kind: 258}, boolean(256), boolean(-1), whole(1, 1, 0), whole(1, 0, 1<<40+1), whole(1, -1<<40-1, 0),
		pick(1, 0), pick(1, 1001), pick(1, -1), text(1, 33), text(1, -1), {ID: 1, Kind: 1, Most: 1}, {ID: 1, Kind: 2, Most: 1}, {ID: 1, Kind: 2, Lo: 1}, {ID: 1, Kind: 2, Hi: 1},
		{ID: 1, Kind: 3, Lo: -1, Most: 1}, {ID: 1, Kind: 3, Hi: 1, Most: 1}, {ID: 1, Kind: 4, Lo: -1}, {ID: 1, Kind: 4, Hi: 1}}
	for _, n := range odd() {
		l = append(l, boolean(n), text(1, n), api.Field{ID: 1, Kind: n})
	}
	return l
}

// poorForms returns invalid forms.
func poorForms() []api.Form {
	l := []api.Form{{}, {ID: 1, Fields: []api.Field{}}, form(201, boolean(1)), form(-1, boolean(1)), form(255, boolean(1)), form(7, booleans(9, 0)...), form(7, booleans(100, 0)...),
		form(7, boolean(1), boolean(1)), form(7, boolean(1), text(1, 2)), form(7, boolean(0), boolean(1), boolean(0)), form(7, boolean(255), boolean(1), boolean(255)),
		form(7, boolean(0), whole(0, 4, 4)), form(7, append(booleans(7, 0), boolean(6))...), form(7, append(booleans(7, 0), boolean(0))...),
		form(7, text(1, 32), text(2, 31)), form(7, text(1, 32), text(2, 32)), form(7, text(2, 32), text(1, 30), boolean(0)), form(7, text(2, 32), text(1, 29), pick(3, 257)),
		form(7, text(2, 32), whole(1, -1<<40, 1<<40), text(5, 25)), form(7, text(0, 8), text(1, 7), text(2, 7), text(3, 7), text(4, 7), text(5, 7), text(6, 7), text(7, 7))}
	for _, n := range odd() {
		l = append(l, form(n, boolean(1)))
	}
	for _, f := range poorFields() {
		l = append(l, form(7, f), form(7, boolean(9), f), form(7, f, boolean(9)))
	}
	return l
}

// rights returns valid schemas.
func rights() []api.Schema {
	l := []api.Schema{version(1), version(65535), {Version: 127, Forms: []api.Form{}}, version(128), version(300, forms(8, 0)...), version(9, forms(8, 193)...),
		version(2, form(7, boolean(1))), version(300, form(1, whole(4, -1, 5), text(2, 9)), form(6, pick(4, 3))),
		version(2, form(0, boolean(1)), form(1, boolean(1)), form(200, boolean(1)))}
	for _, f := range fineForms() {
		l = append(l, version(3, f))
		if f.ID == 7 {
			l = append(l, version(4, form(6, boolean(1)), f, form(8, text(0, 1))))
		}
	}
	return l
}

// wrong returns invalid schemas.
func wrong() []api.Schema {
	l := []api.Schema{{}, version(0, form(7, boolean(1))), version(65536), version(-1), version(1, forms(9, 0)...), version(1, forms(100, 0)...), version(1, forms(9, 193)...),
		version(1, form(7, boolean(1)), form(7, boolean(1))), version(1, form(7, boolean(1)), form(6, boolean(1))), version(1, form(200, boolean(1)), form(0, boolean(1))),
		version(1, form(1, boolean(1)), form(3, boolean(1)), form(2, boolean(1))), version(1, form(2, boolean(1)), form(3, boolean(1)), form(2, boolean(1))),
		version(1, form(1, boolean(1)), form(3, boolean(1)), form(3, text(1, 1)))}
	for _, n := range odd() {
		if n != 256 && n != 257 {
			l = append(l, version(n), version(n, form(7, boolean(1))))
		}
	}
	for _, f := range poorForms() {
		l = append(l, version(3, f), version(3, form(6, boolean(1)), f), version(3, f, form(8, boolean(1))))
	}
	return l
}

// some returns a random field, mostly a valid one.
func some(r *rand.Rand) api.Field {
	id, lo := r.Intn(256), r.Intn(1<<r.Intn(42))-r.Intn(1<<r.Intn(42))
	f := []api.Field{whole(id, lo, lo+r.Intn(1<<r.Intn(42))), boolean(id), pick(id, 1+r.Intn(1000)), text(id, r.Intn(33)), text(id, r.Intn(9)), pick(id, r.Intn(5))}[r.Intn(6)]
	if r.Intn(60) == 0 {
		*[]*int{&f.ID, &f.Kind, &f.Lo, &f.Hi, &f.Most}[r.Intn(5)] += r.Intn(5) - 2
	}
	return f
}

// random returns a random schema, often a valid one.
func random(r *rand.Rand) api.Schema {
	s := version(r.Intn(1 << r.Intn(18)))
	id := r.Intn(100)
	for range r.Intn(1 + r.Intn(10)) {
		f := form(id)
		for range 1 + r.Intn(1+r.Intn(8)) {
			f.Fields = append(f.Fields, some(r))
		}
		s.Forms = append(s.Forms, f)
		id += 1 + r.Intn(30)
	}
	if r.Intn(20) == 0 && len(s.Forms) > 0 {
		s.Forms[r.Intn(len(s.Forms))].ID -= r.Intn(20)
	}
	return s
}

// P13.1: valid forms, and those that are not.
func TestFine(t *testing.T) {
	for _, f := range fineForms() {
		if !validForm(f) || !Fine(f) {
			t.Errorf("Fine(%v) is false", f)
		}
	}
	for _, f := range poorForms() {
		if validForm(f) || Fine(f) {
			t.Errorf("Fine(%v) is true", f)
		}
	}
	for id := -1; id <= 202; id++ {
		if Fine(form(id, boolean(1))) != (id >= 0 && id <= 200) {
			t.Errorf("ID %d", id)
		}
	}
	for n := range 12 {
		if Fine(form(1, booleans(n, 5)...)) != (n >= 1 && n <= 8) {
			t.Errorf("%d fields", n)
		}
	}
	for a := range 33 {
		for b := range 33 {
			if Fine(form(1, text(1, a), text(2, b))) != (a+b+2 <= 64) {
				t.Errorf("strings of %d and %d bytes", a, b)
			}
		}
	}
	for a := range 256 {
		for b := range 256 {
			if Fine(form(1, boolean(a), pick(7, 2), boolean(b))) != (a != b && a != 7 && b != 7) {
				t.Errorf("field IDs %d, 7 and %d", a, b)
			}
		}
	}
}

// P13.1: the length of valid forms, and of others, in which invalid fields count as 0.
func TestLong(t *testing.T) {
	tests := []struct {
		f    api.Form
		want int
	}{
		{api.Form{}, 0}, {form(1, boolean(1)), 1}, {form(1, text(1, 32)), 33}, {form(1, text(1, 0)), 1}, {form(1, pick(1, 1)), 0}, {form(1, whole(1, 9, 9)), 0},
		{form(1, pick(1, 256), pick(2, 257)), 3}, {form(1, whole(4, -1, 5), text(2, 9)), 11}, {form(1, whole(4, -1<<40, 1<<40)), 6},
		{form(-5, boolean(1), boolean(1), boolean(256), text(2, 4)), 7}, {form(1, text(1, 33), boolean(2)), 1}, {form(1, boolean(2), api.Field{}, boolean(3)), 2},
		{form(900, slices.Repeat([]api.Field{text(1, 32)}, 1000)...), 33000},
	}
	for _, c := range tests {
		if n := Long(c.f); n != c.want {
			t.Errorf("Long(%v) = %d, not %d", c.f, n, c.want)
		}
	}
	for _, f := range slices.Concat(fineForms(), poorForms()) {
		want := 0
		for _, x := range f.Fields {
			want += size(x)
		}
		if n := Long(f); n != want {
			t.Errorf("Long(%v) = %d, not %d", f, n, want)
		}
	}
	for _, x := range poorFields() {
		if n := Long(form(1, x, text(3, 5), x)); n != 6 {
			t.Errorf("%v: Long = %d, not 6", x, n)
		}
	}
}

// P13.1: valid schemas, and those that are not.
func TestRight(t *testing.T) {
	for _, s := range rights() {
		if !valid(s) || !Right(s) {
			t.Errorf("Right(%v) is false", s)
		}
	}
	for _, s := range wrong() {
		if valid(s) || Right(s) {
			t.Errorf("Right(%v) is true", s)
		}
	}
	for n := range 12 {
		if Right(version(5, forms(n, 3)...)) != (n <= 8) {
			t.Errorf("%d forms", n)
		}
	}
	for a := -1; a <= 201; a++ {
		for b := -1; b <= 201; b++ {
			if Right(version(1, form(a, boolean(1)), form(b, boolean(1)))) != (0 <= a && a < b && b <= 200) {
				t.Errorf("form IDs %d and %d", a, b)
			}
		}
	}
	for v := -2; v <= 65540; v++ {
		if Right(version(v)) != (v >= 1 && v <= 65535) {
			t.Errorf("version %d", v)
		}
	}
	r := rand.New(rand.NewSource(131))
	good := 0
	for range 20000 {
		s := random(r)
		if Right(s) != valid(s) {
			t.Errorf("Right(%v) = %v", s, !valid(s))
		}
		if valid(s) {
			good++
		}
	}
	if good < 4000 || good > 16000 {
		t.Errorf("%d of 20000 random schemas are valid", good)
	}
}

// changed returns the schemas that differ from s in one number, or in one form or field more or fewer, or exchanged.
func changed(s api.Schema) []api.Schema {
	l := []api.Schema{}
	add := func(change func(c *api.Schema)) {
		c := clone(s)
		change(&c)
		l = append(l, c)
	}
	for _, by := range []int{-1, 1, 256, 1 << 32, math.MinInt} {
		add(func(c *api.Schema) { c.Version += by })
		for i, f := range s.Forms {
			add(func(c *api.Schema) { c.Forms[i].ID += by })
			for k := range f.Fields {
				add(func(c *api.Schema) { c.Forms[i].Fields[k].ID += by })
				add(func(c *api.Schema) { c.Forms[i].Fields[k].Kind += by })
				add(func(c *api.Schema) { c.Forms[i].Fields[k].Lo += by })
				add(func(c *api.Schema) { c.Forms[i].Fields[k].Hi += by })
				add(func(c *api.Schema) { c.Forms[i].Fields[k].Most += by })
			}
		}
	}
	add(func(c *api.Schema) { c.Forms = append(c.Forms, api.Form{}) })
	add(func(c *api.Schema) { c.Forms = append([]api.Form{{}}, c.Forms...) })
	for i, f := range s.Forms {
		add(func(c *api.Schema) { c.Forms = slices.Delete(c.Forms, i, i+1) })
		add(func(c *api.Schema) { c.Forms[i].Fields = append(c.Forms[i].Fields, api.Field{}) })
		for k := range f.Fields {
			add(func(c *api.Schema) { c.Forms[i].Fields = slices.Delete(c.Forms[i].Fields, k, k+1) })
			if k > 0 && f.Fields[k] != f.Fields[k-1] {
				add(func(c *api.Schema) { slices.Reverse(c.Forms[i].Fields[k-1 : k+1]) })
			}
		}
		if i > 0 && s.Forms[i-1].ID != f.ID {
			add(func(c *api.Schema) { slices.Reverse(c.Forms[i-1 : i+1]) })
		}
	}
	return l
}

// P13.1: schemas, valid or not, are the same as their copies, and differ from all that are changed in one place.
func TestSame(t *testing.T) {
	for _, s := range slices.Concat(rights(), wrong()) {
		if !Same(s, clone(s)) || !Same(clone(s), s) || !Same(s, s) {
			t.Errorf("%v is not the same as its copy", s)
		}
		if len(s.Forms) > 10 {
			continue
		}
		for _, c := range changed(s) {
			if Same(s, c) || Same(c, s) {
				t.Errorf("%v and %v are the same", s, c)
			}
		}
	}
	empty := api.Schema{Version: 1, Forms: []api.Form{}}
	if !Same(version(1), empty) || !Same(empty, api.Schema{Version: 1}) {
		t.Error("an empty list of forms is not the same as nil")
	}
	none, nothing := version(1, api.Form{ID: 1}), version(1, api.Form{ID: 1, Fields: []api.Field{}})
	if !Same(none, nothing) || !Same(nothing, none) {
		t.Error("an empty list of fields is not the same as nil")
	}
	r := rand.New(rand.NewSource(132))
	for range 5000 {
		a, b := random(r), random(r)
		if r.Intn(2) == 0 {
			b = clone(a)
		}
		if Same(a, b) != equal(a, b) {
			t.Errorf("Same(%v, %v) = %v", a, b, !equal(a, b))
		}
	}
}

// P13.2: the first form with an ID, in valid schemas and others.
func TestForm(t *testing.T) {
	several := version(0, form(7, boolean(1)), form(-3, boolean(2)), form(7, boolean(3)), form(300), form(300, boolean(4)), form(math.MinInt, boolean(5)), form(0, text(6, 99)))
	for _, s := range append(slices.Concat(rights(), wrong()), several) {
		for _, id := range append(odd(), 0, 1, 3, 6, 7, 8, 193, 199, 200, 201, 300, -3) {
			want, found := api.Form{}, false
			for _, f := range s.Forms {
				if f.ID == id && !found {
					want, found = f, true
				}
			}
			f, ok := Form(s, id)
			if ok != found || !equal(version(1, f), version(1, want)) {
				t.Errorf("Form(%v, %d) = %v, %v", s, id, f, ok)
			}
		}
	}
	if f, ok := Form(several, 7); !ok || len(f.Fields) != 1 || f.Fields[0].ID != 1 {
		t.Errorf("Form 7 = %v, %v", f, ok)
	}
	if f, ok := Form(several, 300); !ok || f.ID != 300 || len(f.Fields) != 0 {
		t.Errorf("Form 300 = %v, %v", f, ok)
	}
	if f, ok := Form(several, 8); ok || f.ID != 0 || f.Fields != nil {
		t.Errorf("Form 8 = %v, %v", f, ok)
	}
}

// P13.2: the index of the first field with an ID, in valid forms and others.
func TestAt(t *testing.T) {
	f := form(-9, boolean(4), text(2, 99), whole(4, 1, 2), api.Field{}, boolean(-1), boolean(math.MaxInt), boolean(2), boolean(256), boolean(0))
	for id, want := range map[int]int{4: 0, 2: 1, 0: 3, -1: 4, math.MaxInt: 5, 256: 7, 1: -1, 3: -1, 258: -1, -9: -1, math.MinInt: -1, 1<<32 + 4: -1} {
		if i := At(f, id); i != want {
			t.Errorf("At(%d) = %d, not %d", id, i, want)
		}
	}
	for n := range 9 {
		for id := -1; id <= 20; id++ {
			want := -1
			if id >= 5 && id < 5+n {
				want = id - 5
			}
			if i := At(form(1, booleans(n, 5)...), id); i != want {
				t.Errorf("%d fields: At(%d) = %d, not %d", n, id, i, want)
			}
		}
	}
}

// P13.3: the bytes of the example, and of schemas with every kind of fields and numbers of several bytes.
func TestPrint(t *testing.T) {
	tests := []struct {
		s    api.Schema
		want string
	}{
		{version(2, form(7, boolean(1))), "\x02\x01\x07\x01\x01\x02"},
		{version(1), "\x01\x00"},
		{version(65535), "\xFF\xFF\x03\x00"},
		{version(300, form(1, whole(4, -1, 5), text(2, 9)), form(6, pick(4, 3))), "\xAC\x02\x02\x01\x02\x04\x01\x01\x0A\x02\x04\x09\x06\x01\x04\x03\x03"},
		{version(1, form(200, pick(255, 1000))), "\x01\x01\xC8\x01\x01\xFF\x01\x03\xE8\x07"},
		{version(1, form(0, text(0, 0))), "\x01\x01\x00\x01\x00\x04\x00"},
		{version(1, form(0, whole(0, -1<<40, 1<<40))), "\x01\x01\x00\x01\x00\x01\xFF\xFF\xFF\xFF\xFF\x3F\x80\x80\x80\x80\x80\x40"},
	}
	for _, c := range tests {
		if b, e := Print(c.s); e != api.OK || string(b) != c.want {
			t.Errorf("Print(%v) = %x, %d", c.s, b, e)
		}
	}
	for _, s := range rights() {
		if b, e := Print(s); e != api.OK || !bytes.Equal(b, encoded(s)) {
			t.Errorf("Print(%v) = %x, %d", s, b, e)
		}
	}
	for _, s := range wrong() {
		if b, e := Print(s); e != api.ErrArg || len(b) != 0 {
			t.Errorf("Print(%v) = %x, %d", s, b, e)
		}
	}
}

// P13.3: each error of Parse, and which one comes first.
func TestParseErrors(t *testing.T) {
	long, endless := "\x80\x80\x80\x80\x80\x80\x80\x80\x80\x01", strings.Repeat("\xFF", 9)
	tests := []struct {
		b    string
		want api.Errno
	}{
		{"", api.ErrShort}, {"\x01", api.ErrShort}, {"\x80", api.ErrShort}, {"\x80\x80", api.ErrShort}, {"\x01\x01", api.ErrShort}, {"\x01\x01\x07", api.ErrShort}, {"\x01\x01\x07\x01", api.ErrShort},
		{"\x01\x01\x07\x01\x01", api.ErrShort}, {"\x01\x01\x07\x01\x01\x01", api.ErrShort}, {"\x01\x01\x07\x01\x01\x01\x00", api.ErrShort}, {"\x01\x01\x07\x01\x01\x03", api.ErrShort},
		{"\x01\x01\x07\x01\x01\x04", api.ErrShort}, {"\x01\x01\x07\x02\x01\x02", api.ErrShort}, {"\x01\x02\x07\x01\x01\x02", api.ErrShort},
		// The limits of each Count, with more bytes and without.
		{"\xFF\xFF\x03\x00", api.OK}, {"\x80\x80\x04\x00", api.ErrMany}, {"\x80\x80\x04", api.ErrMany}, {"\x01\x09", api.ErrMany}, {"\x01\x01\xC9\x01", api.ErrMany}, {"\x01\x01\xC8\x01", api.ErrShort},
		{"\x01\x01\x07\x09", api.ErrMany}, {"\x01\x01\x07\x08", api.ErrShort}, {"\x01\x01\x07\x01\x80\x02", api.ErrMany}, {"\x01\x01\x07\x01\xFF\x01", api.ErrShort}, {"\x01\x01\x07\x01\x01\x05", api.ErrMany},
		{"\x01\x01\x07\x01\x01\x03\xE9\x07", api.ErrMany}, {"\x01\x01\x07\x01\x01\x03\xE8\x07", api.OK}, {"\x01\x01\x07\x01\x01\x04\xE9\x07", api.ErrMany}, {"\x01\x01\x07\x01\x01\x04\xE8\x07", api.ErrArg},
		{"\x01\x01\x07\x01\x01\x04\x21", api.ErrArg}, {"\x01\x01\x07\x01\x01\x04\x20", api.OK},
		// Malformed varints at each place, and numbers that do not fit.
		{"\x81\x00\x00", api.ErrForm}, {"\x01\x80\x00", api.ErrForm}, {"\x01\x01\x87\x00", api.ErrForm}, {"\x01\x01\x07\x81\x00", api.ErrForm}, {"\x01\x01\x07\x01\x81\x00", api.ErrForm},
		{"\x01\x01\x07\x01\x01\x82\x00", api.ErrForm}, {"\x01\x01\x07\x01\x01\x01\x80\x00\x00", api.ErrForm}, {"\x01\x01\x07\x01\x01\x01\x00\x80\x00", api.ErrForm}, {"\x01\x01\x07\x01\x01\x03\x81\x00", api.ErrForm},
		{long, api.ErrForm}, {endless + "\x02", api.ErrForm}, {endless + "\x80", api.ErrForm}, {endless, api.ErrShort}, {"\x01\x01\x07\x01\x01\x01" + endless + "\x02\x00", api.ErrForm},
		{"\x01\x01\x07\x01\x01\x01" + endless + "\x01\x00", api.ErrArg}, {"\x01\x01\x07\x01\x01\x01\x00" + endless + "\x01", api.ErrArg},
		// Nothing follows a Kind of 0, or of 2.
		{"\x01\x01\x07\x01\x01\x00", api.ErrArg}, {"\x01\x01\x07\x01\x01\x00\x00", api.ErrRest}, {"\x01\x01\x07\x02\x01\x00\x02\x02", api.ErrArg}, {"\x01\x01\x07\x02\x01\x00\x02\x05", api.ErrMany},
		{"\x01\x01\x07\x02\x01\x00", api.ErrShort}, {"\x01\x01\x07\x01\x01\x02", api.OK}, {"\x01\x01\x07\x01\x01\x02\x00", api.ErrRest},
		// The decoder's errors come before ErrRest, and ErrRest before ErrArg.
		{"\x00\x00", api.ErrArg}, {"\x00\x00\x00", api.ErrRest}, {"\x01\x00", api.OK}, {"\x01\x00\x00", api.ErrRest}, {"\x01\x00\x80", api.ErrRest}, {"\x00\x09", api.ErrMany}, {"\x00\x01", api.ErrShort},
		{"\x00", api.ErrShort}, {"\x00\x80\x00", api.ErrForm}, {"\x01\x01\x07\x00", api.ErrArg}, {"\x01\x01\x07\x00\x00", api.ErrRest}, {"\x01\x02\x07\x00\xC9\x01", api.ErrMany},
		{"\x01\x02\x07\x01\x01\x02\x07\x01\x01\x02", api.ErrArg}, {"\x01\x02\x07\x01\x01\x02\x06\x01\x01\x02", api.ErrArg}, {"\x01\x02\x07\x01\x01\x02\x08\x01\x01\x02", api.OK},
		{"\x01\x01\x07\x02\x01\x02\x01\x02", api.ErrArg}, {"\x01\x01\x07\x02\x01\x02\x01\x02\x00", api.ErrRest}, {"\x01\x01\x07\x02\x01\x04\x20\x02\x04\x1F", api.ErrArg}, {"\x01\x01\x07\x02\x01\x04\x20\x02\x04\x1E", api.OK},
		{"\x01\x01\x07\x01\x01\x01\x02\x00", api.ErrArg}, {"\x01\x01\x07\x01\x01\x01\x00\x00", api.OK}, {"\x01\x01\x07\x01\x01\x03\x00", api.ErrArg},
		// Which of two errors of the decoder comes first.
		{"\x01\x09\x80\x00", api.ErrMany}, {"\x01\x80\x00\xC9\x01", api.ErrForm}, {"\x80\x80\x04\x80\x00", api.ErrMany}, {"\x81\x00\x09", api.ErrForm}, {"\x01\x01\x07\x02\x01\x05\x80\x00", api.ErrMany},
	}
	for _, c := range tests {
		s, e := Parse([]byte(c.b))
		if e != c.want {
			t.Errorf("Parse(%x) = %v, %d, not %d", c.b, s, e, c.want)
		}
		if e != api.OK && (s.Version != 0 || s.Forms != nil) {
			t.Errorf("Parse(%x) = %v beside error %d", c.b, s, e)
		}
		if _, want := decoded([]byte(c.b)); want != c.want {
			t.Errorf("%x: the test's decoder returns %d", c.b, want)
		}
	}
	if s, e := Parse(nil); e != api.ErrShort || s.Version != 0 || s.Forms != nil {
		t.Errorf("Parse(nil) = %v, %d", s, e)
	}
}

// checkParse compares Parse with the decoder written from the definitions, and a decoded schema's encoding with what was read (P13.3, P13.4).
func checkParse(t *testing.T, b []byte) api.Errno {
	t.Helper()
	s, e := Parse(b)
	want, bad := decoded(b)
	if e != bad || !equal(s, want) {
		t.Fatalf("Parse(%x) = %v, %d, not %v, %d", b, s, e, want, bad)
	}
	if e != api.OK {
		return e
	}
	if again, e := Print(s); e != api.OK || !bytes.Equal(again, b) {
		t.Fatalf("Print(%v) = %x, %d, not %x", s, again, e, b)
	}
	return e
}

// P13.3, P13.4: what Parse reads of cut, extended and changed encodings, of encodings of invalid schemas, and of random bytes.
func TestParse(t *testing.T) {
	r := rand.New(rand.NewSource(133))
	seen := map[api.Errno]int{}
	for _, s := range slices.Concat(rights(), wrong()) {
		b := encoded(s)
		seen[checkParse(t, b)]++
		if len(b) > 200 {
			continue
		}
		for n := range b {
			seen[checkParse(t, b[:n])]++
			for _, x := range []byte{0, 1, 2, 3, 4, 5, 8, 9, 127, 128, 255, b[n] - 1, b[n] + 1} {
				c := bytes.Clone(b)
				c[n] = x
				seen[checkParse(t, c)]++
			}
			seen[checkParse(t, slices.Insert(bytes.Clone(b), n, byte(r.Intn(5))))]++
			seen[checkParse(t, slices.Delete(bytes.Clone(b), n, n+1))]++
		}
		seen[checkParse(t, append(bytes.Clone(b), 0))]++
		seen[checkParse(t, append(bytes.Clone(b), b...))]++
	}
	for range 100000 {
		b := make([]byte, r.Intn(16))
		for i := range b {
			b[i] = []byte{0, 1, 1, 2, 2, 3, 4, 7, byte(r.Intn(256))}[r.Intn(9)]
		}
		seen[checkParse(t, b)]++
	}
	for _, e := range []api.Errno{api.OK, api.ErrShort, api.ErrRest, api.ErrArg, api.ErrMany, api.ErrForm} {
		if seen[e] < 100 {
			t.Errorf("error %d only %d times", e, seen[e])
		}
	}
}

// P13.4: valid schemas are decoded from their encodings.
func TestRoundTrip(t *testing.T) {
	r := rand.New(rand.NewSource(134))
	all := rights()
	for range 20000 {
		if s := random(r); Right(s) {
			all = append(all, s)
		}
	}
	for _, s := range all {
		b, e := Print(s)
		if e != api.OK {
			t.Fatalf("Print(%v) = %d", s, e)
		}
		if got, e := Parse(b); e != api.OK || !equal(got, s) {
			t.Errorf("Parse(Print(%v)) = %v, %d", s, got, e)
		}
	}
}

// R3: neither arguments nor their spare capacity are modified, and results share no memory with them.
func TestMemory(t *testing.T) {
	fields := append(make([]api.Field, 0, 8), whole(4, -1, 5), text(2, 9))
	s := api.Schema{Version: 300, Forms: append(make([]api.Form, 0, 8), form(1, pick(4, 3)), api.Form{ID: 6, Fields: fields})}
	before := clone(s)
	b, _ := Print(s)
	f, _ := Form(s, 6)
	Fine(f)
	Long(f)
	At(f, 2)
	Right(s)
	Same(s, before)
	if !equal(s, before) || s.Forms[:3][2].Fields != nil || fields[:3][2] != (api.Field{}) {
		t.Error("an argument was modified")
	}
	f.Fields[0].ID = 99
	f.Fields = append(f.Fields, boolean(99))
	if !equal(s, before) || fields[:3][2] != (api.Field{}) {
		t.Error("Form shares memory with its argument")
	}
	again, _ := Print(s)
	b[0]++
	if bytes.Equal(b, again) {
		t.Error("two results of Print share memory")
	}
	in := append(make([]byte, 0, 50), again...)
	got, e := Parse(in)
	if e != api.OK || !bytes.Equal(in, again) || !bytes.Equal(in[:50][len(in):], make([]byte, 50-len(in))) {
		t.Error("Parse modified its argument")
	}
	clear(in)
	other, _ := Parse(again)
	got.Forms[0].Fields[0].ID = 99
	if !equal(other, before) || got.Version != 300 || got.Forms[1].Fields[1] != text(2, 9) {
		t.Error("Parse shares memory")
	}
	got.Forms[0].Fields = append(got.Forms[0].Fields, boolean(1))
	if !equal(version(1, got.Forms[1]), version(1, before.Forms[1])) {
		t.Error("two lists of one result share memory")
	}
}
