package record

import (
	"bytes"
	"math"
	"math/rand"
	"slices"
	"strings"
	"testing"

	"instar/api"
	"instar/schema"
)

func whole(id, lo, hi int) api.Field { return api.Field{ID: id, Kind: 1, Lo: lo, Hi: hi} }

func boolean(id int) api.Field { return api.Field{ID: id, Kind: 2} }

func pick(id, most int) api.Field { return api.Field{ID: id, Kind: 3, Most: most} }

func text(id, most int) api.Field { return api.Field{ID: id, Kind: 4, Most: most} }

func form(id int, fields ...api.Field) api.Form { return api.Form{ID: id, Fields: fields} }

func num(n int) api.Value { return api.Value{N: n} }

func str(s string) api.Value { return api.Value{S: s} }

func record(id int, vals ...api.Value) api.Record { return api.Record{Form: id, Vals: vals} }

// odd returns numbers that an overflow, or a conversion to fewer bits, could bring into bounds.
func odd() []int {
	return []int{math.MinInt, math.MinInt + 1, math.MinInt32, -1 << 32, 1 - 1<<32, -65536, -65535, -256, -255, -2, -1,
		256, 257, 1 << 16, 1<<16 + 1, math.MaxInt32, math.MaxUint32, 1 << 32, 1<<32 + 1, 1 << 62, math.MaxInt - 1, math.MaxInt}
}

// booleans returns n KBool fields with IDs from 0 on.
func booleans(n int) []api.Field {
	l := []api.Field{}
	for i := range n {
		l = append(l, boolean(i))
	}
	return l
}

// bounds returns the least and the greatest number and the longest string of the values of a valid field, as chapter 12 defines them.
func bounds(x api.Field) (int, int, int) {
	switch x.Kind {
	case 1:
		return x.Lo, x.Hi, 0
	case 2:
		return 0, 1, 0
	case 3:
		return 0, x.Most - 1, 0
	}
	return 0, 0, x.Most
}

// fits reports whether a value belongs to a valid field.
func fits(x api.Field, v api.Value) bool {
	lo, hi, long := bounds(x)
	return lo <= v.N && v.N <= hi && len(v.S) <= long
}

// width returns how many bytes the number of a valid field takes, if it is not KText.
func width(x api.Field) int {
	if x.Kind == 2 {
		return 1
	}
	n := 0
	for lo, hi, _ := bounds(x); hi-lo >= 1<<(8*n); {
		n++
	}
	return n
}

// valid reports whether a form is valid, as chapter 13 defines it.
func valid(f api.Form) bool {
	total, ids := 0, map[int]bool{}
	for _, x := range f.Fields {
		right := map[int]bool{
			1: x.Lo <= x.Hi && x.Lo >= -1<<40 && x.Hi <= 1<<40 && x.Most == 0,
			2: x == boolean(x.ID),
			3: x == pick(x.ID, x.Most) && x.Most >= 1 && x.Most <= 1000,
			4: x == text(x.ID, x.Most) && x.Most >= 0 && x.Most <= 32,
		}[x.Kind]
		if !right || x.ID < 0 || x.ID > 255 {
			return false
		}
		ids[x.ID] = true
		if x.Kind == 4 {
			total += 1 + x.Most
		} else {
			total += width(x)
		}
	}
	return f.ID >= 0 && f.ID <= 200 && len(f.Fields) >= 1 && len(f.Fields) <= 8 && len(ids) == len(f.Fields) && total <= 64
}

// member reports whether a record belongs to a valid form, as the chapter defines it.
func member(t *testing.T, f api.Form, r api.Record) bool {
	t.Helper()
	if !valid(f) {
		t.Fatalf("%v is not valid", f)
	}
	if r.Form != f.ID || len(r.Vals) != len(f.Fields) {
		return false
	}
	for i, x := range f.Fields {
		if !fits(x, r.Vals[i]) {
			return false
		}
	}
	return true
}

// equal reports whether two records are equal, member by member.
func equal(a, b api.Record) bool {
	if a.Form != b.Form || len(a.Vals) != len(b.Vals) {
		return false
	}
	for i := range a.Vals {
		if a.Vals[i].N != b.Vals[i].N || a.Vals[i].S != b.Vals[i].S {
			return false
		}
	}
	return true
}

// clone returns a copy of a record that shares no list with it.
func clone(r api.Record) api.Record { return record(r.Form, append([]api.Value{}, r.Vals...)...) }

// encoded returns the encoding of a record that belongs to a valid form.
func encoded(f api.Form, r api.Record) []byte {
	b := []byte{}
	for i, x := range f.Fields {
		v := r.Vals[i]
		if x.Kind == 4 {
			b = append(append(b, byte(len(v.S))), v.S...)
			continue
		}
		lo, _, _ := bounds(x)
		for n := width(x) - 1; n >= 0; n-- {
			b = append(b, byte((v.N-lo)>>(8*n)))
		}
	}
	return b
}

// decoded returns what Take must return for a valid form.
func decoded(f api.Form, b []byte) (api.Record, api.Errno) {
	r := record(f.ID)
	for _, x := range f.Fields {
		lo, hi, long := bounds(x)
		n := width(x)
		if x.Kind == 4 {
			n = 1
		}
		if len(b) < n {
			return api.Record{}, api.ErrShort
		}
		got := 0
		for _, c := range b[:n] {
			got = got*256 + int(c)
		}
		b = b[n:]
		switch {
		case x.Kind == 4 && got > long, x.Kind != 4 && got > hi-lo:
			return api.Record{}, api.ErrValue
		case x.Kind == 4 && got > len(b):
			return api.Record{}, api.ErrShort
		case x.Kind == 4:
			r.Vals = append(r.Vals, str(string(b[:got])))
			b = b[got:]
		default:
			r.Vals = append(r.Vals, num(lo+got))
		}
	}
	if len(b) > 0 {
		return api.Record{}, api.ErrRest
	}
	return r, api.OK
}

// fineForms returns valid forms.
func fineForms() []api.Form {
	return []api.Form{
		form(0, boolean(0)), form(200, boolean(255)), form(7, text(1, 0)), form(7, text(1, 32)), form(7, pick(1, 1)), form(7, pick(1, 256)), form(7, pick(1, 257)), form(7, pick(1, 1000)),
		form(7, whole(1, 5, 5)), form(7, whole(1, -5, -5)), form(7, whole(1, 10, 300)), form(7, whole(1, -9, 246)), form(7, whole(1, -9, 247)),
		form(7, whole(1, -1<<40, 1<<40)), form(7, whole(1, 1<<40, 1<<40)), form(7, whole(1, -1<<40, -1<<40)), form(7, whole(1, 0, 1<<40)), form(7, whole(1, 0, 1<<40-1)),
		form(3, booleans(8)...), form(7, boolean(1), text(4, 3)), form(7, text(4, 3), boolean(1)), form(7, boolean(9), boolean(3), text(8, 32)),
		form(7, text(1, 32), text(2, 30)), form(7, text(2, 32), text(1, 29), pick(3, 256)), form(7, text(2, 32), text(1, 30), pick(0, 1), whole(4, 8, 8)),
		form(7, pick(1, 1), whole(2, 3, 3)), form(7, pick(1, 300), pick(2, 2), whole(3, -7, 300), whole(4, 7, 7)),
		form(7, text(0, 7), text(1, 7), text(2, 7), text(3, 7), text(4, 7), text(5, 7), text(6, 7), text(7, 7)),
		form(9, whole(10, 0, 1), boolean(11), pick(12, 2), text(13, 3), whole(14, -300, 300), boolean(15), pick(16, 257), text(17, 0)),
	}
}

// poorFields returns invalid fields.
func poorFields() []api.Field {
	l := []api.Field{{}, {ID: 1}, {ID: 1, Kind: 5}, {ID: 1, Kind: -1}, {ID: 1, Kind: 258}, boolean(256), boolean(-1), whole(1, 1, 0), whole(1, 0, 1<<40+1), whole(1, -1<<40-1, 0),
		pick(1, 0), pick(1, 1001), pick(1, -1), text(1, 33), text(1, -1), {ID: 1, Kind: 1, Most: 1}, {ID: 1, Kind: 2, Most: 1}, {ID: 1, Kind: 2, Lo: 1}, {ID: 1, Kind: 2, Hi: 1},
		{ID: 1, Kind: 3, Lo: -1, Most: 1}, {ID: 1, Kind: 3, Hi: 1, Most: 1}, {ID: 1, Kind: 4, Lo: -1}, {ID: 1, Kind: 4, Hi: 1}}
	for _, n := range odd() {
		l = append(l, boolean(n), text(1, n), api.Field{ID: 1, Kind: n})
	}
	return l
}

// poorForms returns invalid forms, most of them with fields to each of which values would belong.
func poorForms() []api.Form {
	l := []api.Form{{}, {ID: 1, Fields: []api.Field{}}, form(201, boolean(1)), form(-1, boolean(1)), form(255, boolean(1)), form(7, booleans(9)...), form(7, booleans(100)...),
		form(7, boolean(1), boolean(1)), form(7, boolean(1), text(1, 2)), form(7, boolean(0), boolean(1), boolean(0)), form(7, boolean(0), whole(0, 4, 4)),
		form(7, text(1, 32), text(2, 31)), form(7, text(2, 32), text(1, 29), pick(3, 257)), form(7, text(2, 32), whole(1, -1<<40, 1<<40), text(5, 25)),
		form(7, text(0, 8), text(1, 7), text(2, 7), text(3, 7), text(4, 7), text(5, 7), text(6, 7), text(7, 7))}
	for _, n := range odd() {
		l = append(l, form(n, boolean(1)))
	}
	for _, x := range poorFields() {
		l = append(l, form(7, x), form(7, boolean(9), x), form(7, x, boolean(9)))
	}
	return l
}

// extremes returns the records of a valid form in which all values are the least, all the greatest, or one differs from the others in that.
func extremes(f api.Form) []api.Record {
	least, most := record(f.ID), record(f.ID)
	for _, x := range f.Fields {
		lo, hi, long := bounds(x)
		least.Vals = append(least.Vals, num(lo))
		most.Vals = append(most.Vals, api.Value{N: hi, S: strings.Repeat("\xff", long)})
	}
	l := []api.Record{least, most}
	for i := range f.Fields {
		a, b := clone(least), clone(most)
		a.Vals[i], b.Vals[i] = b.Vals[i], a.Vals[i]
		l = append(l, a, b)
	}
	return l
}

// someForm returns a random valid form.
func someForm(r *rand.Rand) api.Form {
	for {
		f := form(r.Intn(201))
		for range 1 + r.Intn(1+r.Intn(8)) {
			id, lo := r.Intn(256), r.Intn(1<<r.Intn(40))-r.Intn(1<<r.Intn(40))
			l := []api.Field{whole(id, lo, lo+r.Intn(1<<r.Intn(40))), boolean(id), pick(id, 1+r.Intn(1000)), pick(id, 1+r.Intn(4)), text(id, r.Intn(33)), text(id, r.Intn(4))}
			f.Fields = append(f.Fields, l[r.Intn(len(l))])
		}
		if valid(f) {
			return f
		}
	}
}

// someRecord returns a random record of a valid form.
func someRecord(r *rand.Rand, f api.Form) api.Record {
	c := record(f.ID)
	for _, x := range f.Fields {
		lo, hi, long := bounds(x)
		b := make([]byte, r.Intn(long+1))
		r.Read(b)
		c.Vals = append(c.Vals, api.Value{N: lo + r.Intn(hi-lo+1), S: string(b)})
	}
	return c
}

// changed returns the records that differ from r in one number or string, or in one value more or fewer, or exchanged.
func changed(r api.Record) []api.Record {
	l := []api.Record{}
	add := func(change func(c *api.Record)) {
		c := clone(r)
		change(&c)
		l = append(l, c)
	}
	for _, by := range []int{-1, 1, 2, 256, 1 << 32, 1 << 41, math.MinInt} {
		add(func(c *api.Record) { c.Form += by })
		for i := range r.Vals {
			add(func(c *api.Record) { c.Vals[i].N += by })
		}
	}
	for i, v := range r.Vals {
		for _, s := range []string{v.S + "\x00", "x" + v.S, v.S + strings.Repeat("y", 33)} {
			add(func(c *api.Record) { c.Vals[i].S = s })
		}
		if v.S != "" {
			add(func(c *api.Record) { c.Vals[i].S = v.S[1:] })
			add(func(c *api.Record) { c.Vals[i].S = string([]byte{v.S[0] ^ 1}) + v.S[1:] })
		}
		add(func(c *api.Record) { c.Vals = slices.Delete(c.Vals, i, i+1) })
		add(func(c *api.Record) { c.Vals = slices.Insert(c.Vals, i, api.Value{}) })
		if i > 0 && v != r.Vals[i-1] {
			add(func(c *api.Record) { c.Vals[i-1], c.Vals[i] = v, c.Vals[i-1] })
		}
	}
	add(func(c *api.Record) { c.Vals = append(c.Vals, api.Value{}) })
	return l
}

// checkLay compares Has and Lay with the definitions, and an encoding with the record that is decoded from it (P14.1 to P14.3).
func checkLay(t *testing.T, f api.Form, r api.Record) bool {
	t.Helper()
	b, e := Lay(f, r)
	if !member(t, f, r) {
		if Has(f, r) {
			t.Errorf("Has(%v, %v) is true", f, r)
		}
		if len(b) > 0 || e != api.ErrValue {
			t.Errorf("Lay(%v, %v) = %d, %d, not ErrValue", f, r, b, e)
		}
		return false
	}
	if !Has(f, r) {
		t.Errorf("Has(%v, %v) is false", f, r)
	}
	if want := encoded(f, r); !bytes.Equal(b, want) || e != api.OK {
		t.Errorf("Lay(%v, %v) = %d, %d, not %d", f, r, b, e, want)
	}
	if len(b) > schema.Long(f) {
		t.Errorf("Lay(%v, %v) has %d bytes, more than %d", f, r, len(b), schema.Long(f))
	}
	if got, e := Take(f, b); !equal(got, r) || e != api.OK {
		t.Errorf("Take(%v, %d) = %v, %d, not %v", f, b, got, e, r)
	}
	return true
}

// checkTake compares Take with the decoder written from the definitions, and a decoded record's encoding with what was read (P14.2, P14.3).
func checkTake(t *testing.T, f api.Form, b []byte) api.Errno {
	t.Helper()
	r, e := Take(f, b)
	if want, bad := decoded(f, b); !equal(r, want) || e != bad {
		t.Errorf("Take(%v, %d) = %v, %d, not %v, %d", f, b, r, e, want, bad)
	}
	if e != api.OK {
		return e
	}
	if again, e := Lay(f, r); !bytes.Equal(again, b) || e != api.OK {
		t.Errorf("%v: what is decoded from %d is encoded as %d, %d", f, b, again, e)
	}
	return e
}

// P14.1: records that belong to a form, and those that do not.
func TestHas(t *testing.T) {
	f := form(7, boolean(1), text(4, 3), whole(2, 10, 300), pick(3, 4))
	tests := []struct {
		r    api.Record
		want bool
	}{
		{record(7, num(0), str(""), num(10), num(0)), true}, {record(7, num(1), str("abc"), num(300), num(3)), true}, {record(7, num(1), str("\x00\xff"), num(77), num(2)), true},
		{record(8, num(0), str(""), num(10), num(0)), false}, {record(0, num(0), str(""), num(10), num(0)), false}, {record(-7, num(0), str(""), num(10), num(0)), false},
		{record(7+1<<32, num(0), str(""), num(10), num(0)), false}, {record(7+256, num(0), str(""), num(10), num(0)), false},
		{record(7, num(2), str(""), num(10), num(0)), false}, {record(7, num(-1), str(""), num(10), num(0)), false}, {record(7, num(0), str("abcd"), num(10), num(0)), false},
		{record(7, num(0), str(""), num(9), num(0)), false}, {record(7, num(0), str(""), num(301), num(0)), false}, {record(7, num(0), str(""), num(10), num(4)), false}, {record(7, num(0), str(""), num(10), num(-1)), false},
		{record(7, api.Value{S: "a"}, str(""), num(10), num(0)), false}, {record(7, num(0), str(""), api.Value{N: 10, S: "a"}, num(0)), false}, {record(7, num(0), str(""), num(10), api.Value{S: "a"}), false},
		{record(7, num(0), api.Value{N: 1}, num(10), num(0)), false}, {record(7, num(0), api.Value{N: -1, S: "abc"}, num(10), num(0)), false},
		{record(7, num(0), str(""), num(10)), false}, {record(7, num(0), str(""), num(10), num(0), num(0)), false}, {record(7, num(0)), false}, {record(7), false}, {api.Record{}, false},
		{record(7, str(""), num(10), num(0), num(0)), false}, {record(7, str("abc"), num(1), num(10), num(0)), false}, {record(7, num(0), str(""), num(0), num(10)), false},
	}
	for _, c := range tests {
		if Has(f, c.r) != c.want || checkLay(t, f, c.r) != c.want {
			t.Errorf("Has(%v, %v) is not %v", f, c.r, c.want)
		}
	}
	for _, f := range fineForms() {
		for _, r := range extremes(f) {
			if !checkLay(t, f, r) {
				t.Errorf("%v: %v is out of bounds", f, r)
			}
			for _, c := range changed(r) {
				checkLay(t, f, c)
			}
		}
		for _, n := range odd() {
			for i := range f.Fields {
				r := clone(extremes(f)[0])
				r.Vals[i].N = n
				checkLay(t, f, r)
			}
			checkLay(t, f, api.Record{Form: n, Vals: extremes(f)[0].Vals})
		}
	}
}

// P14.1, P14.2: no record belongs to an invalid form, which is named before all that is wrong with a record or with bytes.
func TestPoorForms(t *testing.T) {
	for _, f := range poorForms() {
		if valid(f) {
			t.Fatalf("%v is valid", f)
		}
		vals := []api.Value{}
		b := []byte{}
		for _, x := range f.Fields {
			vals = append(vals, num(x.Lo))
			b = append(b, 0)
		}
		for _, r := range []api.Record{record(f.ID, vals...), record(f.ID), record(f.ID+1, vals...), record(f.ID, append(vals, num(5))...), {}} {
			if Has(f, r) {
				t.Errorf("Has(%v, %v) is true", f, r)
			}
			if b, e := Lay(f, r); len(b) > 0 || e != api.ErrArg {
				t.Errorf("Lay(%v, %v) = %d, %d, not ErrArg", f, r, b, e)
			}
		}
		for _, in := range [][]byte{b, nil, {0}, {255}, make([]byte, 9), make([]byte, 100)} {
			if r, e := Take(f, in); !equal(r, api.Record{}) || e != api.ErrArg {
				t.Errorf("Take(%v, %d) = %v, %d, not ErrArg", f, in, r, e)
			}
		}
		if r := First(f); !equal(r, api.Record{}) {
			t.Errorf("First(%v) = %v", f, r)
		}
	}
}

// P14.1: the record with the least values.
func TestFirst(t *testing.T) {
	f := form(9, whole(10, 5, 8), boolean(11), pick(12, 2), text(13, 3), whole(14, -300, 300), whole(2, -9, -4), whole(15, 0, 4))
	if r := First(f); !equal(r, record(9, num(5), num(0), num(0), str(""), num(-300), num(-9), num(0))) {
		t.Errorf("First(%v) = %v", f, r)
	}
	for _, f := range fineForms() {
		want := record(f.ID)
		for _, x := range f.Fields {
			want.Vals = append(want.Vals, num(x.Lo)) // 0 for all kinds but KInt
		}
		if r := First(f); !equal(r, want) || !Has(f, r) {
			t.Errorf("First(%v) = %v, not %v", f, r, want)
		}
	}
}

// P14.1: records, whatever they contain, are the same as their copies, and differ from all that are changed in one place.
func TestSame(t *testing.T) {
	l := []api.Record{{}, record(7), record(-1), record(math.MinInt, num(math.MaxInt)), record(math.MaxInt, num(math.MinInt)), record(7, api.Value{N: 3, S: "abc"}, num(-1), str(strings.Repeat("z", 300))),
		record(7, num(0)), record(7, num(0), num(0)), record(7, str("ab"), str("c")), record(7, str("a"), str("bc")), record(300, slices.Repeat([]api.Value{num(4), str("x")}, 50)...)}
	for _, f := range fineForms() {
		l = append(l, extremes(f)...)
	}
	for _, a := range l {
		if !Same(a, a) || !Same(a, clone(a)) || !Same(clone(a), a) {
			t.Errorf("Same(%v, its copy) is false", a)
		}
		for _, b := range changed(a) {
			if Same(a, b) || Same(b, a) {
				t.Errorf("Same(%v, %v) is true", a, b)
			}
		}
		for _, b := range l {
			if Same(a, b) != equal(a, b) {
				t.Errorf("Same(%v, %v) = %v", a, b, !equal(a, b))
			}
		}
	}
	if !Same(api.Record{Form: 2}, api.Record{Form: 2, Vals: []api.Value{}}) || !Same(api.Record{Form: 2, Vals: []api.Value{}}, api.Record{Form: 2}) {
		t.Error("records differ in whether their empty lists are nil")
	}
}

// P14.2: the example, and encodings with values of each kind and width.
func TestLay(t *testing.T) {
	tests := []struct {
		f    api.Form
		r    api.Record
		want string
	}{
		{form(7, boolean(1), text(4, 3)), record(7, num(1), str("ab")), "\x01\x02ab"},
		{form(7, text(4, 3), boolean(1)), record(7, str("ab"), num(1)), "\x02ab\x01"},
		{form(0, boolean(9), text(4, 0)), record(0, num(0), str("")), "\x00\x00"},
		{form(7, pick(1, 1)), record(7, num(0)), ""}, {form(7, pick(1, 1), whole(2, 8, 8)), record(7, num(0), num(8)), ""},
		{form(7, pick(1, 1), boolean(2), whole(3, 8, 8)), record(7, num(0), num(1), num(8)), "\x01"},
		{form(7, pick(1, 256), pick(2, 257)), record(7, num(5), num(5)), "\x05\x00\x05"}, {form(7, pick(1, 1000)), record(7, num(999)), "\x03\xe7"},
		{form(7, whole(1, 10, 300), whole(2, -9, 246)), record(7, num(300), num(-9)), "\x01\x22\x00"},
		{form(7, whole(2, -9, 247), boolean(3)), record(7, num(247), num(0)), "\x01\x00\x00"},
		{form(7, whole(1, -1<<40, 1<<40), boolean(3)), record(7, num(1<<40), num(1)), "\x02\x00\x00\x00\x00\x00\x01"},
		{form(7, whole(1, 0, 1<<40-1)), record(7, num(0x0102030405)), "\x01\x02\x03\x04\x05"},
		{form(200, text(2, 3), text(1, 3), text(0, 3)), record(200, str("\x00"), str("abc"), str("")), "\x01\x00\x03abc\x00"},
	}
	for _, c := range tests {
		if b, e := Lay(c.f, c.r); string(b) != c.want || e != api.OK {
			t.Errorf("Lay(%v, %v) = %d, %d, not %d", c.f, c.r, b, e, []byte(c.want))
		}
		if r, e := Take(c.f, []byte(c.want)); !equal(r, c.r) || e != api.OK {
			t.Errorf("Take(%v, %d) = %v, %d, not %v", c.f, []byte(c.want), r, e, c.r)
		}
		checkLay(t, c.f, c.r)
	}
}

// P14.2: each error of Take, and which one comes first.
func TestTakeErrors(t *testing.T) {
	f := form(7, boolean(1), text(4, 3), whole(2, 10, 300))
	tests := []struct {
		b    string
		want api.Errno
	}{
		{"\x01\x02ab\x01\x22", api.OK}, {"\x00\x00\x00\x00", api.OK},
		{"", api.ErrShort}, {"\x01", api.ErrShort}, {"\x01\x02", api.ErrShort}, {"\x01\x02a", api.ErrShort}, {"\x01\x02ab", api.ErrShort}, {"\x01\x02ab\x01", api.ErrShort},
		{"\x01\x02ab\x01\x22\x00", api.ErrRest}, {"\x00\x00\x00\x00\x00\x00", api.ErrRest}, {"\x00\x03abc\x00\x00abc", api.ErrRest},
		{"\x02\x02ab\x01\x22", api.ErrValue}, {"\xff\x02ab\x01\x22", api.ErrValue}, {"\x01\x04abcd\x01\x22", api.ErrValue}, {"\x01\xffab\x01\x22", api.ErrValue}, {"\x01\x02ab\x01\x23", api.ErrValue}, {"\x01\x02ab\xff\xff", api.ErrValue},
		{"\x02", api.ErrValue}, {"\x02\x03", api.ErrValue}, {"\x01\x04", api.ErrValue}, {"\x01\x04abcd", api.ErrValue}, // an earlier field is wrong before a later one is missing
		{"\x01\x03ab", api.ErrShort}, {"\x01\x01ab", api.ErrShort}, {"\x01\x01abc", api.ErrValue}, {"\x01\x00\xff", api.ErrShort},
		{"\x02\x02ab\x01\x22\x00", api.ErrValue}, {"\x01\x04abcd\x01\x22\x00", api.ErrValue}, {"\x01\x02ab\x01\x23\x00", api.ErrValue}, // and before bytes remain
	}
	for _, c := range tests {
		if e := checkTake(t, f, []byte(c.b)); e != c.want {
			t.Errorf("Take(%v, %d): %d, not %d", f, []byte(c.b), e, c.want)
		}
	}
	nothing := form(7, pick(1, 1), whole(2, 8, 8))
	if e := checkTake(t, nothing, nil); e != api.OK {
		t.Errorf("no bytes for fields of one value: %d", e)
	}
	if e := checkTake(t, nothing, []byte{0}); e != api.ErrRest {
		t.Errorf("a byte for fields of one value: %d", e)
	}
}

// P14.2, P14.3: what Take reads of short inputs, of cut, extended and changed encodings, and of random bytes.
func TestTake(t *testing.T) {
	small := []api.Form{form(7, boolean(1)), form(7, text(1, 1)), form(7, pick(1, 1)), form(7, pick(1, 3), whole(2, -200, 1)), form(7, whole(1, 0, 300)), form(7, boolean(1), text(2, 0), pick(3, 1)), form(7, text(1, 0), text(2, 1))}
	for _, f := range small {
		checkTake(t, f, nil)
		for a := range 256 {
			checkTake(t, f, []byte{byte(a)})
			for b := range 256 {
				checkTake(t, f, []byte{byte(a), byte(b)})
			}
		}
	}
	r := rand.New(rand.NewSource(142))
	met := map[api.Errno]int{}
	for range 3000 {
		f := someForm(r)
		b := encoded(f, someRecord(r, f))
		if e := checkTake(t, f, b); e != api.OK {
			t.Errorf("Take(%v, %d): %d", f, b, e)
		}
		for n := range b {
			met[checkTake(t, f, b[:n])]++
		}
		met[checkTake(t, f, append(b, byte(r.Intn(256))))]++
		for i := range b {
			c := bytes.Clone(b)
			c[i] += byte(1 + r.Intn(255))
			met[checkTake(t, f, c)]++
		}
		c := make([]byte, r.Intn(70))
		r.Read(c)
		met[checkTake(t, f, c)]++
	}
	for _, e := range []api.Errno{api.OK, api.ErrShort, api.ErrValue, api.ErrRest} {
		if met[e] < 500 {
			t.Errorf("only %d times %d", met[e], e)
		}
	}
}

// P14.3: random records are decoded from their encodings, which are at most as long as the form; the greatest ones are as long.
func TestRoundTrip(t *testing.T) {
	r := rand.New(rand.NewSource(143))
	for range 20000 {
		f := someForm(r)
		c := someRecord(r, f)
		if !checkLay(t, f, c) {
			t.Fatalf("%v does not belong to %v", c, f)
		}
	}
	for _, f := range fineForms() {
		greatest := extremes(f)[1]
		if b, _ := Lay(f, greatest); len(b) != schema.Long(f) {
			t.Errorf("%v is encoded in %d bytes of %d", greatest, len(b), schema.Long(f))
		}
	}
}

// R3: neither arguments nor their spare capacity are modified.
func TestArguments(t *testing.T) {
	f := form(7, append(make([]api.Field, 0, 8), boolean(1), text(4, 3))...)
	r := record(7, append(make([]api.Value, 0, 8), num(1), str("ab"))...)
	b := append(make([]byte, 0, 50), "\x01\x02ab"...)
	Has(f, r)
	Same(r, r)
	Lay(f, r)
	Take(f, b)
	first := First(f)
	first.Vals[0].N = 5
	if f.Fields[0] != boolean(1) || f.Fields[1] != text(4, 3) || !slices.Equal(f.Fields[2:8], make([]api.Field, 6)) {
		t.Error("the form was modified")
	}
	if r.Vals[0] != num(1) || r.Vals[1] != str("ab") || !slices.Equal(r.Vals[2:8], make([]api.Value, 6)) {
		t.Error("the record was modified")
	}
	if string(b) != "\x01\x02ab" || !bytes.Equal(b[4:50], make([]byte, 46)) {
		t.Error("the bytes were modified")
	}
}

// R3: results share no memory with arguments or with other results, and what is behind the end of a slice does not belong to it.
func TestMemory(t *testing.T) {
	f := form(7, boolean(1), text(4, 3))
	r := record(7, num(1), str("ab"))
	b, _ := Lay(f, r)
	again, _ := Lay(f, r)
	got, _ := Take(f, b)
	other, _ := Take(f, b)
	clear(b)
	if string(again) != "\x01\x02ab" || !equal(got, r) {
		t.Error("an encoding shares memory")
	}
	clear(got.Vals)
	if !equal(other, r) {
		t.Error("two results of Take share memory")
	}
	first, second := First(f), First(f)
	first.Vals[0].N = 1
	if !equal(second, record(7, num(0), str(""))) || !equal(First(f), second) {
		t.Error("two results of First share memory")
	}
	for n := range again {
		if e := checkTake(t, f, again[:n]); e != api.ErrShort {
			t.Errorf("the first %d bytes of %d: %d", n, again, e)
		}
	}
	if Has(f, record(7, r.Vals[:1]...)) || Has(form(7, f.Fields[:1]...), r) {
		t.Error("a list is read behind its end")
	}
}
