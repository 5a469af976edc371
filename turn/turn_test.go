package turn

import (
	"fmt"
	"math"
	"math/big"
	"math/rand"
	"slices"
	"strings"
	"testing"

	"instar/api"
	"instar/typing"
)

const most = 1 << 40

func whole(id, lo, hi int) api.Field { return api.Field{ID: id, Kind: 1, Lo: lo, Hi: hi} }

func boolean(id int) api.Field { return api.Field{ID: id, Kind: 2} }

func pick(id, n int) api.Field { return api.Field{ID: id, Kind: 3, Most: n} }

func text(id, n int) api.Field { return api.Field{ID: id, Kind: 4, Most: n} }

func num(n int) api.Value { return api.Value{N: n} }

func str(s string) api.Value { return api.Value{S: s} }

func list(l ...api.Field) []api.Field { return l }

func form(id int, l ...api.Field) api.Form { return api.Form{ID: id, Fields: l} }

func version(n int, l ...api.Form) api.Schema { return api.Schema{Version: n, Forms: l} }

// rec returns a record with values that are given as numbers and strings.
func rec(form int, l ...any) api.Record {
	r := api.Record{Form: form}
	for _, x := range l {
		switch v := x.(type) {
		case int:
			r.Vals = append(r.Vals, num(v))
		case string:
			r.Vals = append(r.Vals, str(v))
		}
	}
	return r
}

// told returns all members of a record as text.
func told(r api.Record) string {
	s := fmt.Sprint(r.Form, " of ", len(r.Vals))
	for _, v := range r.Vals {
		s += fmt.Sprintf(", %d %q", v.N, v.S)
	}
	return s
}

func toldDone(d Done) string { return told(d.Rec) + fmt.Sprintf(" %v %v %q", d.Gone, d.Has, d.Lost) }

// formIn returns the form with an ID, and whether there is one.
func formIn(s api.Schema, id int) (api.Form, bool) {
	for _, f := range s.Forms {
		if f.ID == id {
			return f, true
		}
	}
	return api.Form{}, false
}

// fieldIn returns the field with an ID.
func fieldIn(f api.Form, id int) api.Field {
	for _, x := range f.Fields {
		if x.ID == id {
			return x
		}
	}
	return api.Field{}
}

// top returns how many values a field that is not KText has, minus 1.
func top(f api.Field) int { return []int{0, f.Hi - f.Lo, 1, f.Most - 1}[f.Kind] }

// has reports whether a value belongs to a valid field.
func has(f api.Field, v api.Value) bool {
	if f.Kind == 4 {
		return v.N == 0 && len(v.S) <= f.Most
	}
	return v.S == "" && v.N >= f.Lo && v.N <= f.Lo+top(f)
}

// belongs reports whether a record belongs to a valid form.
func belongs(f api.Form, r api.Record) bool {
	if r.Form != f.ID || len(r.Vals) != len(f.Fields) {
		return false
	}
	for i, v := range r.Vals {
		if !has(f.Fields[i], v) {
			return false
		}
	}
	return true
}

// code returns the encoding of a value.
func code(f api.Field, v api.Value) string {
	switch f.Kind {
	case 2:
		return string([]byte{byte(v.N)})
	case 4:
		return string([]byte{byte(len(v.S))}) + v.S
	}
	s, n := "", v.N-f.Lo
	for m := top(f); m > 0; m /= 256 {
		s = string([]byte{byte(n % 256)}) + s
		n /= 256
	}
	return s
}

// decoded returns the value with an encoding, and whether there is one.
func decoded(f api.Field, s string) (api.Value, bool) {
	if f.Kind == 4 {
		return str(s[min(1, len(s)):]), len(s) > 0 && int(s[0]) == len(s)-1 && len(s)-1 <= f.Most
	}
	n := new(big.Int).SetBytes([]byte(s))
	if !n.IsInt64() || n.Int64() > int64(top(f)) {
		return api.Value{}, false
	}
	v := num(f.Lo + int(n.Int64()))
	return v, code(f, v) == s
}

// codeAll returns the encoding of a record.
func codeAll(f api.Form, r api.Record) string {
	s := ""
	for i, v := range r.Vals {
		s += code(f.Fields[i], v)
	}
	return s
}

// byID returns the values of a record under the IDs of the fields.
func byID(f api.Form, r api.Record) map[int]api.Value {
	m := map[int]api.Value{}
	for i, x := range f.Fields {
		m[x.ID] = r.Vals[i]
	}
	return m
}

// inOrder returns the record of a form with the values under the IDs of its fields.
func inOrder(f api.Form, m map[int]api.Value) api.Record {
	r := api.Record{Form: f.ID}
	for _, x := range f.Fields {
		r.Vals = append(r.Vals, m[x.ID])
	}
	return r
}

// expectedOn returns what On must return; the order of the values is that of the resulting schema.
func expectedOn(s api.Schema, x api.Step, r api.Record) (Done, api.Errno) {
	after, e := typing.On(s, x)
	if e != api.OK {
		return Done{}, e
	}
	f, ok := formIn(s, r.Form)
	if !ok || !belongs(f, r) {
		return Done{}, api.ErrValue
	}
	next, ok := formIn(after, r.Form)
	if !ok {
		return Done{Gone: true, Has: true, Lost: codeAll(f, r)}, api.OK
	}
	d, m := Done{}, byID(f, r)
	v := m[x.Field]
	if r.Form != x.Form {
		x.Op = 0
	}
	switch x.Op {
	case 1:
		m[x.F.ID] = x.V
	case 2:
		d.Has, d.Lost = true, code(fieldIn(f, x.Field), v)
	case 4:
		n := new(big.Int).Mul(big.NewInt(int64(x.A)), big.NewInt(int64(v.N)))
		m[x.Field] = num(int(n.Add(n, big.NewInt(int64(x.B))).Int64()))
	case 5:
		m[x.Field] = num(x.T[v.N])
	case 6:
		q, rest := new(big.Int).DivMod(big.NewInt(int64(v.N)), big.NewInt(int64(x.A)), new(big.Int))
		m[x.Field], m[x.To] = num(int(q.Int64())), num(int(rest.Int64()))
	case 8:
		m[x.To] = v
	}
	d.Rec = inOrder(next, m)
	return d, api.OK
}

// expectedBack returns what Back must return; the order of the values is that of the schema before the step.
func expectedBack(s api.Schema, x api.Step, r api.Record, lost string, with bool) (api.Record, api.Errno) {
	after, e := typing.On(s, x)
	if e != api.OK {
		return api.Record{}, e
	}
	next, ok := formIn(after, r.Form)
	if !ok || !belongs(next, r) {
		return api.Record{}, api.ErrValue
	}
	f, ok := formIn(s, r.Form)
	if !ok {
		return api.Record{}, api.ErrConv
	}
	if r.Form != x.Form {
		return r, api.OK
	}
	old, m := fieldIn(f, x.Field), byID(next, r)
	n := m[x.Field].N
	switch x.Op {
	case 2:
		m[x.Field] = x.V
		if v, ok := decoded(old, lost); with {
			if !ok {
				return api.Record{}, api.ErrDamage
			}
			m[x.Field] = v
		}
	case 4:
		product := new(big.Int).Sub(big.NewInt(int64(n)), big.NewInt(int64(x.B)))
		q, rest := new(big.Int).QuoRem(product, big.NewInt(int64(x.A)), new(big.Int))
		m[x.Field] = num(int(q.Int64()))
		if rest.Sign() != 0 {
			return api.Record{}, api.ErrConv
		}
	case 5:
		m[x.Field] = num(-1)
		for i, y := range x.T {
			if y == n {
				m[x.Field] = num(i)
			}
		}
	case 6:
		product := new(big.Int).Mul(big.NewInt(int64(n)), big.NewInt(int64(x.A)))
		m[x.Field] = num(int(product.Int64()) + m[x.To].N)
	case 8:
		m[x.Field] = m[x.To]
	}
	back := inOrder(f, m)
	if !belongs(f, back) {
		return api.Record{}, api.ErrConv
	}
	return back, api.OK
}

// checkOn compares On with what the chapter requires, and its result with P19.4.
func checkOn(t *testing.T, s api.Schema, x api.Step, r api.Record) (Done, api.Errno) {
	t.Helper()
	want, bad := expectedOn(s, x, r)
	d, e := On(s, x, r)
	if e != bad || toldDone(d) != toldDone(want) {
		t.Fatalf("On(%v, %v, %v) = %v, %d, not %v, %d", s, x, told(r), toldDone(d), e, toldDone(want), bad)
	}
	if e != api.OK {
		return d, e
	}
	after, _ := typing.On(s, x)
	next, _ := formIn(after, r.Form)
	again, e := Back(s, x, d.Rec, d.Lost, d.Has)
	if d.Gone {
		again, e = Regain(s, x, d.Lost)
	} else if !belongs(next, d.Rec) {
		t.Fatalf("On(%v, %v, %v) = %v: it does not belong to %v", s, x, told(r), toldDone(d), next)
	}
	if e != api.OK || told(again) != told(r) {
		t.Fatalf("On(%v, %v, %v) = %v: the way back leads to %v, %d", s, x, told(r), toldDone(d), told(again), e)
	}
	return d, api.OK
}

// checkBack compares Back with what the chapter requires, and its result with P19.4.
func checkBack(t *testing.T, s api.Schema, x api.Step, r api.Record, lost string, with bool) api.Errno {
	t.Helper()
	want, bad := expectedBack(s, x, r, lost, with)
	got, e := Back(s, x, r, lost, with)
	if e != bad || told(got) != told(want) {
		t.Fatalf("Back(%v, %v, %v, %q, %v) = %v, %d, not %v, %d", s, x, told(r), lost, with, told(got), e, told(want), bad)
	}
	if e != api.OK {
		return e
	}
	f, _ := formIn(s, r.Form)
	d, e := On(s, x, got)
	if x.Op == 1 && r.Form == x.Form {
		r.Vals = slices.Replace(slices.Clone(r.Vals), x.Place, x.Place+1, x.V) // a field that the step adds
	}
	if !belongs(f, got) || e != api.OK || d.Gone || told(d.Rec) != told(r) {
		t.Fatalf("Back(%v, %v, %v, %q, %v) = %v: On leads to %v, %d", s, x, told(r), lost, with, told(got), toldDone(d), e)
	}
	return api.OK
}

// fields returns fields of all kinds.
func fields() []api.Field {
	return list(whole(1, 0, 99), text(2, 4), pick(3, 3), boolean(4), whole(5, -10, 300))
}

// between returns a schema in which the form with fields() has an ID, between forms that have fields with the same IDs.
func between(id int) api.Schema {
	s := version(3)
	for k := range 201 {
		switch {
		case k == id:
			s.Forms = append(s.Forms, form(k, fields()...))
		case k%99 == 1:
			s.Forms = append(s.Forms, form(k, boolean(5), text(4, 3), whole(1, -9, 9), pick(2, 5), boolean(9), boolean(3)))
		}
	}
	return s
}

// P19.1: each step on a record of its form.
func TestOn(t *testing.T) {
	tests := []struct {
		x    api.Step
		want api.Record
		lost string // empty if there is none
	}{
		{api.Step{Op: 1, F: text(8, 2), V: str("ab")}, rec(0, "ab", 42, "hi", 1, 1, 250), ""},
		{api.Step{Op: 1, Place: 2, F: whole(0, 5, 9), V: num(6)}, rec(0, 42, "hi", 6, 1, 1, 250), ""},
		{api.Step{Op: 1, Place: 5, F: boolean(255), V: num(1)}, rec(0, 42, "hi", 1, 1, 250, 1), ""},
		{api.Step{Op: 1, Place: 4, F: pick(9, 7)}, rec(0, 42, "hi", 1, 1, 0, 250), ""},
		{api.Step{Op: 2, Field: 1, V: num(7)}, rec(0, "hi", 1, 1, 250), "\x2a"},
		{api.Step{Op: 2, Field: 2, V: str("no")}, rec(0, 42, 1, 1, 250), "\x02hi"},
		{api.Step{Op: 2, Field: 3}, rec(0, 42, "hi", 1, 250), "\x01"},
		{api.Step{Op: 2, Field: 4}, rec(0, 42, "hi", 1, 250), "\x01"},
		{api.Step{Op: 2, Field: 5}, rec(0, 42, "hi", 1, 1), "\x01\x04"},
		{api.Step{Op: 3, Field: 1, F: whole(1, -1, 101)}, rec(0, 42, "hi", 1, 1, 250), ""},
		{api.Step{Op: 3, Field: 2, F: text(2, 32)}, rec(0, 42, "hi", 1, 1, 250), ""},
		{api.Step{Op: 4, Field: 1, A: 3, B: 1}, rec(0, 127, "hi", 1, 1, 250), ""},
		{api.Step{Op: 4, Field: 5, A: -2, B: 5}, rec(0, 42, "hi", 1, 1, -495), ""},
		{api.Step{Op: 5, Field: 3, A: 3, T: []int{1, 2, 0}}, rec(0, 42, "hi", 2, 1, 250), ""},
		{api.Step{Op: 5, Field: 3, A: 1000, T: []int{3, 999, 0}}, rec(0, 42, "hi", 999, 1, 250), ""},
		{api.Step{Op: 6, Field: 1, A: 10, To: 9}, rec(0, 4, 2, "hi", 1, 1, 250), ""},
		{api.Step{Op: 6, Field: 1, A: 43, To: 0}, rec(0, 0, 42, "hi", 1, 1, 250), ""},
		{api.Step{Op: 6, Field: 1, A: 2, To: 0}, rec(0, 21, 0, "hi", 1, 1, 250), ""},
		{api.Step{Op: 7, Field: 1, Place: 4}, rec(0, "hi", 1, 1, 250, 42), ""},
		{api.Step{Op: 7, Field: 1, Place: 2}, rec(0, "hi", 1, 42, 1, 250), ""},
		{api.Step{Op: 7, Field: 5}, rec(0, 250, 42, "hi", 1, 1), ""},
		{api.Step{Op: 7, Field: 2, Place: 1}, rec(0, 42, "hi", 1, 1, 250), ""},
		{api.Step{Op: 8, Field: 2, To: 8}, rec(0, 42, "hi", 1, 1, 250), ""},
		{api.Step{Op: 10}, rec(0), "\x2a\x02hi\x01\x01\x01\x04"},
	}
	for _, c := range tests {
		for _, id := range []int{0, 7, 200} {
			c.x.Form, c.want.Form = id, id
			want := Done{Rec: c.want, Has: c.lost != "", Lost: c.lost}
			if c.x.Op == 10 {
				want = Done{Gone: true, Has: true, Lost: c.lost}
			}
			r := rec(id, 42, "hi", 1, 1, 250)
			if d, e := On(between(id), c.x, r); e != api.OK || toldDone(d) != toldDone(want) {
				t.Errorf("On(%v, %v) = %v, %d, not %v", c.x, told(r), toldDone(d), e, toldDone(want))
			}
			checkOn(t, between(id), c.x, r)
		}
	}
}

// P19.1: lost data of no bytes is lost data too.
func TestEmptyLost(t *testing.T) {
	s := version(1, form(7, whole(1, 5, 5), pick(2, 1)))
	for _, x := range []api.Step{{Op: 2, Form: 7, Field: 1, V: num(5)}, {Op: 2, Form: 7, Field: 2}, {Op: 10, Form: 7}} {
		if d, e := checkOn(t, s, x, rec(7, 5, 0)); e != api.OK || !d.Has || d.Lost != "" || d.Gone != (x.Op == 10) {
			t.Errorf("On(%v) = %v, %d", x, toldDone(d), e)
		}
	}
	if r, e := Back(s, api.Step{Op: 2, Form: 7, Field: 1, V: num(5)}, rec(7, 0), "\x00", true); e != api.ErrDamage || told(r) != told(api.Record{}) {
		t.Errorf("a byte of a value without bytes: %v, %d", told(r), e)
	}
}

// P19.2: each step undone on records that it may have made, and on others.
func TestBack(t *testing.T) {
	const conv, damage = api.ErrConv, api.ErrDamage
	tests := []struct {
		x    api.Step
		r    api.Record
		lost string // "-" if there is none
		want api.Record
		e    api.Errno
	}{
		{api.Step{Op: 1, F: text(8, 2), V: str("ab")}, rec(7, "ab", 42, "hi", 1, 1, 250), "-", rec(7, 42, "hi", 1, 1, 250), 0},
		{api.Step{Op: 1, F: text(8, 2), V: str("ab")}, rec(7, "x", 42, "hi", 1, 1, 250), "-", rec(7, 42, "hi", 1, 1, 250), 0},
		{api.Step{Op: 1, Place: 2, F: whole(0, 5, 9), V: num(6)}, rec(7, 42, "hi", 9, 1, 1, 250), "-", rec(7, 42, "hi", 1, 1, 250), 0},
		{api.Step{Op: 1, Place: 5, F: boolean(255), V: num(1)}, rec(7, 42, "hi", 1, 1, 250, 0), "-", rec(7, 42, "hi", 1, 1, 250), 0},
		{api.Step{Op: 2, Field: 1, V: num(7)}, rec(7, "hi", 1, 1, 250), "\x2a", rec(7, 42, "hi", 1, 1, 250), 0},
		{api.Step{Op: 2, Field: 1, V: num(7)}, rec(7, "hi", 1, 1, 250), "-", rec(7, 7, "hi", 1, 1, 250), 0},
		{api.Step{Op: 2, Field: 1, V: num(7)}, rec(7, "hi", 1, 1, 250), "\x63", rec(7, 99, "hi", 1, 1, 250), 0},
		{api.Step{Op: 2, Field: 1, V: num(7)}, rec(7, "hi", 1, 1, 250), "\x64", rec(0), damage},
		{api.Step{Op: 2, Field: 1, V: num(7)}, rec(7, "hi", 1, 1, 250), "", rec(0), damage},
		{api.Step{Op: 2, Field: 1, V: num(7)}, rec(7, "hi", 1, 1, 250), "\x2a\x00", rec(0), damage},
		{api.Step{Op: 2, Field: 1, V: num(7)}, rec(7, "hi", 1, 1, 250), "\x00\x2a", rec(0), damage},
		{api.Step{Op: 2, Field: 2, V: str("no")}, rec(7, 42, 1, 1, 250), "\x02hi", rec(7, 42, "hi", 1, 1, 250), 0},
		{api.Step{Op: 2, Field: 2, V: str("no")}, rec(7, 42, 1, 1, 250), "\x00", rec(7, 42, "", 1, 1, 250), 0},
		{api.Step{Op: 2, Field: 2, V: str("no")}, rec(7, 42, 1, 1, 250), "-", rec(7, 42, "no", 1, 1, 250), 0},
		{api.Step{Op: 2, Field: 2, V: str("no")}, rec(7, 42, 1, 1, 250), "\x02h", rec(0), damage},
		{api.Step{Op: 2, Field: 2, V: str("no")}, rec(7, 42, 1, 1, 250), "\x02hi!", rec(0), damage},
		{api.Step{Op: 2, Field: 2, V: str("no")}, rec(7, 42, 1, 1, 250), "\x05hello", rec(0), damage},
		{api.Step{Op: 2, Field: 2, V: str("no")}, rec(7, 42, 1, 1, 250), "", rec(0), damage},
		{api.Step{Op: 2, Field: 5, V: num(-10)}, rec(7, 42, "hi", 1, 1), "\x01\x04", rec(7, 42, "hi", 1, 1, 250), 0},
		{api.Step{Op: 2, Field: 5, V: num(-10)}, rec(7, 42, "hi", 1, 1), "\x01\x36", rec(7, 42, "hi", 1, 1, 300), 0},
		{api.Step{Op: 2, Field: 5, V: num(-10)}, rec(7, 42, "hi", 1, 1), "\x01\x37", rec(0), damage},
		{api.Step{Op: 2, Field: 5, V: num(-10)}, rec(7, 42, "hi", 1, 1), "\x04", rec(0), damage},
		{api.Step{Op: 2, Field: 4}, rec(7, 42, "hi", 1, 250), "\x02", rec(0), damage},
		{api.Step{Op: 3, Field: 1, F: whole(1, -1, 101)}, rec(7, 99, "hi", 1, 1, 250), "-", rec(7, 99, "hi", 1, 1, 250), 0},
		{api.Step{Op: 3, Field: 1, F: whole(1, -1, 101)}, rec(7, 100, "hi", 1, 1, 250), "-", rec(0), conv},
		{api.Step{Op: 3, Field: 1, F: whole(1, -1, 101)}, rec(7, -1, "hi", 1, 1, 250), "-", rec(0), conv},
		{api.Step{Op: 3, Field: 2, F: text(2, 32)}, rec(7, 42, "four", 1, 1, 250), "-", rec(7, 42, "four", 1, 1, 250), 0},
		{api.Step{Op: 3, Field: 2, F: text(2, 32)}, rec(7, 42, "5five", 1, 1, 250), "-", rec(0), conv},
		{api.Step{Op: 3, Field: 3, F: pick(3, 4)}, rec(7, 42, "hi", 3, 1, 250), "-", rec(0), conv},
		{api.Step{Op: 4, Field: 1, A: 3, B: 1}, rec(7, 16, "hi", 1, 1, 250), "-", rec(7, 5, "hi", 1, 1, 250), 0},
		{api.Step{Op: 4, Field: 1, A: 3, B: 1}, rec(7, 17, "hi", 1, 1, 250), "-", rec(0), conv},
		{api.Step{Op: 4, Field: 5, A: -2, B: 5}, rec(7, 42, "hi", 1, 1, -495), "-", rec(7, 42, "hi", 1, 1, 250), 0},
		{api.Step{Op: 4, Field: 5, A: -2, B: 5}, rec(7, 42, "hi", 1, 1, 25), "-", rec(7, 42, "hi", 1, 1, -10), 0},
		{api.Step{Op: 4, Field: 5, A: -2, B: 5}, rec(7, 42, "hi", 1, 1, 4), "-", rec(0), conv},
		{api.Step{Op: 5, Field: 3, A: 3, T: []int{1, 2, 0}}, rec(7, 42, "hi", 0, 1, 250), "-", rec(7, 42, "hi", 2, 1, 250), 0},
		{api.Step{Op: 5, Field: 3, A: 1000, T: []int{3, 999, 0}}, rec(7, 42, "hi", 999, 1, 250), "-", rec(7, 42, "hi", 1, 1, 250), 0},
		{api.Step{Op: 5, Field: 3, A: 1000, T: []int{3, 999, 0}}, rec(7, 42, "hi", 1, 1, 250), "-", rec(0), conv},
		{api.Step{Op: 6, Field: 1, A: 10, To: 9}, rec(7, 4, 2, "hi", 1, 1, 250), "-", rec(7, 42, "hi", 1, 1, 250), 0},
		{api.Step{Op: 6, Field: 1, A: 10, To: 9}, rec(7, 9, 9, "hi", 1, 1, 250), "-", rec(7, 99, "hi", 1, 1, 250), 0},
		{api.Step{Op: 6, Field: 1, A: 37, To: 9}, rec(7, 2, 25, "hi", 1, 1, 250), "-", rec(7, 99, "hi", 1, 1, 250), 0},
		{api.Step{Op: 6, Field: 1, A: 37, To: 9}, rec(7, 2, 26, "hi", 1, 1, 250), "-", rec(0), conv},
		{api.Step{Op: 7, Field: 1, Place: 4}, rec(7, "hi", 1, 1, 250, 42), "-", rec(7, 42, "hi", 1, 1, 250), 0},
		{api.Step{Op: 7, Field: 5}, rec(7, 250, 42, "hi", 1, 1), "-", rec(7, 42, "hi", 1, 1, 250), 0},
		{api.Step{Op: 7, Field: 3, Place: 1}, rec(7, 42, 1, "hi", 1, 250), "-", rec(7, 42, "hi", 1, 1, 250), 0},
		{api.Step{Op: 8, Field: 2, To: 8}, rec(7, 42, "hi", 1, 1, 250), "-", rec(7, 42, "hi", 1, 1, 250), 0},
		{api.Step{Op: 10}, rec(7, 42, "hi", 1, 1, 250), "-", rec(0), api.ErrValue},
	}
	for _, c := range tests {
		c.x.Form = 7
		lost, with := c.lost, c.lost != "-"
		if !with {
			lost = "\x07" // without has, whatever it is
		}
		if got, e := Back(between(7), c.x, c.r, lost, with); e != c.e || told(got) != told(c.want) {
			t.Errorf("Back(%v, %v, %q) = %v, %d, not %v, %d", c.x, told(c.r), c.lost, told(got), e, told(c.want), c.e)
		}
		checkBack(t, between(7), c.x, c.r, lost, with)
		if c.x.Op != 2 { // only OpRestore uses lost data
			checkBack(t, between(7), c.x, c.r, "\x07", true)
		}
	}
	added := api.Step{Op: 9, Form: 8, Fields: fields()}
	if got, e := Back(between(7), added, rec(8, 42, "hi", 1, 1, 250), "", false); e != conv || told(got) != told(api.Record{}) {
		t.Errorf("a record of a form that the step added: %v, %d", told(got), e)
	}
}

// every returns steps with every Op, valid and not, for a form with fields from 1 to 5 and for other ones.
func every(id int) []api.Step {
	l := []api.Step{{}, {Op: 10, Form: id}, {Op: 9, Form: id, Fields: fields()}, {Op: 9, Form: 150, Fields: fields()}, {Op: 9, Form: 150}, {Op: 29, Form: id}, {Op: 30, Form: id, Fields: fields()}}
	for place := range 8 {
		for _, f := range []struct {
			f api.Field
			v api.Value
		}{{whole(6, -5, 5), num(-5)}, {whole(77, 0, 0), num(0)}, {text(0, 3), str("")}, {text(8, 32), str("ab")}, {pick(9, 3), num(2)}, {boolean(255), num(1)}, {boolean(1), num(0)}, {boolean(6), num(2)}} {
			l = append(l, api.Step{Op: 1, Form: id, Place: place, F: f.f, V: f.v})
		}
	}
	for _, at := range []int{1, 2, 3, 4, 5, 6} {
		for _, v := range []api.Value{num(0), num(1), num(2), num(-3), num(99), str("x"), str("\x00\xff")} {
			l = append(l, api.Step{Op: 2, Form: id, Field: at, V: v})
		}
		for _, f := range list(whole(at, 0, 99), whole(at, -1, 100), whole(at, -300, 300), whole(at, -most, most), text(at, 4), text(at, 9), pick(at, 3), pick(at, 300), boolean(at), whole(at, 1, 9)) {
			l = append(l, api.Step{Op: 3, Form: id, Field: at, F: f})
		}
		for _, a := range []int{1, -1, 2, -2, 3, 10, -255, 1 << 20, -1 << 20, 0} {
			for _, b := range []int{0, 1, -1, 7, -200, most - 1000} {
				l = append(l, api.Step{Op: 4, Form: id, Field: at, A: a, B: b})
			}
			l = append(l, api.Step{Op: 6, Form: id, Field: at, A: a, To: 8}, api.Step{Op: 6, Form: id, Field: at, A: a + 30, To: 0}, api.Step{Op: 6, Form: id, Field: at, A: 7, To: 2})
		}
		for _, table := range [][]int{{0, 1, 2}, {2, 1, 0}, {1, 2, 0}, {4, 0, 3}, {999, 5, 256}, {0, 1}, {0}, {1, 1, 2}} {
			l = append(l, api.Step{Op: 5, Form: id, Field: at, A: 3, T: table}, api.Step{Op: 5, Form: id, Field: at, A: 5, T: table}, api.Step{Op: 5, Form: id, Field: at, A: 1000, T: table})
		}
		for n := range 7 {
			l = append(l, api.Step{Op: 7, Form: id, Field: at, Place: n}, api.Step{Op: 8, Form: id, Field: at, To: n + 4})
		}
	}
	return l
}

// values returns a few values of a field, or all of them if there are no more than n, and without n the ones at the bounds.
func values(f api.Field, n int) []api.Value {
	if f.Kind == 4 {
		return []api.Value{str(""), str(strings.Repeat("\xff", f.Most)), str(strings.Repeat("a", min(f.Most, 1)))}
	}
	if top(f) >= n {
		return []api.Value{num(f.Lo), num(f.Lo + top(f)), num(f.Lo + top(f)/2), num(f.Lo + top(f)/3)}
	}
	l := []api.Value{}
	for i := range top(f) + 1 {
		l = append(l, num(f.Lo+i))
	}
	return l
}

// records returns records of a form: for each field, all values from values with the least ones of the other fields, and others with a value of each field.
func records(f api.Form, n int) []api.Record {
	l := []api.Record{}
	for i := range f.Fields {
		for k, v := range values(f.Fields[i], n) {
			r := api.Record{Form: f.ID}
			for m, x := range f.Fields {
				some := values(x, n)
				r.Vals = append(r.Vals, some[k*m%len(some)])
			}
			r.Vals[i] = v
			l = append(l, r)
		}
	}
	return l
}

// losts returns lost data for a field: encodings of values, also of other fields, and other strings.
func losts(f api.Field) []string {
	l := []string{"", "\x00", "\x01", "\x02", "\x03", "\x63", "\x64", "\x01\x36", "\x01\x37", "\x00\x00", "\x00\x01", "\x01a", "\x04abcd", "\x05abcde", "\x04abc", "\xff", strings.Repeat("\x00", 9), strings.Repeat("\xff", 8), strings.Repeat("\xff", 70)}
	for _, v := range values(f, 0) {
		c := code(f, v)
		l = append(l, c, c+"\x00", "\x00"+c, c[:max(0, len(c)-1)])
	}
	return l
}

// P19.1 to P19.4: all steps on many records of each form, before and after the step, against the chapter.
func TestEvery(t *testing.T) {
	on, back := map[int]int{}, map[string]int{}
	for _, id := range []int{0, 7, 200} {
		s := between(id)
		for _, x := range every(id) {
			after, e := typing.On(s, x)
			if e != api.OK {
				continue
			}
			for _, f := range s.Forms {
				for _, r := range records(f, 4) {
					checkOn(t, s, x, r)
					if f.ID == x.Form {
						on[x.Op]++
					}
				}
			}
			for _, f := range after.Forms {
				for _, r := range records(f, 6) {
					e := checkBack(t, s, x, r, "", false)
					if f.ID == x.Form {
						back[fmt.Sprint(x.Op, " ", e)]++
					}
				}
			}
		}
	}
	for op := 1; op <= 10; op++ {
		if op != 9 && on[op] < 40 {
			t.Errorf("only %d records for Op %d", on[op], op)
		}
	}
	for _, k := range []string{"1 0", "2 0", "3 0", "3 20", "4 0", "4 20", "5 0", "5 20", "6 0", "7 0", "8 0", "9 20"} {
		if back[k] < 40 {
			t.Errorf("only %d records back for Op and error %s", back[k], k)
		}
	}
}

// pairs returns all records of a form of two fields that are not KText.
func pairs(f api.Form) []api.Record {
	l := []api.Record{}
	for _, a := range values(f.Fields[0], math.MaxInt) {
		for _, b := range values(f.Fields[1], math.MaxInt) {
			l = append(l, api.Record{Form: f.ID, Vals: []api.Value{a, b}})
		}
	}
	return l
}

// P19.1, P19.2, P19.4: OpSplit with all numbers of small fields, and OpJoin with all pairs.
func TestSplit(t *testing.T) {
	lost := 0
	for hi := range 20 {
		for a := 2; a < 23; a++ {
			s, x := version(1, form(7, whole(1, 0, hi))), api.Step{Op: 6, Form: 7, Field: 1, A: a, To: 2}
			for n := range hi + 1 {
				if d, e := checkOn(t, s, x, rec(7, n)); e != api.OK || told(d.Rec) != told(rec(7, n/a, n%a)) {
					t.Errorf("%d by %d: %v, %d", n, a, toldDone(d), e)
				}
			}
			after, _ := typing.On(s, x)
			for _, r := range pairs(after.Forms[0]) {
				if checkBack(t, s, x, r, "", false) == api.ErrConv {
					lost++
				}
			}
		}
	}
	if lost < 200 {
		t.Errorf("only %d pairs without a number", lost)
	}
}

// P19.1, P19.2, P19.4: OpScale with all numbers of small fields, and OpUnscale with all numbers of the resulting ones.
func TestScale(t *testing.T) {
	lost := 0
	for lo := -4; lo <= 4; lo++ {
		for hi := lo; hi < lo+6; hi++ {
			for a := -4; a <= 4; a++ {
				for b := -5; b <= 5 && a != 0; b++ {
					s, x := version(1, form(7, whole(1, lo, hi), boolean(2))), api.Step{Op: 4, Form: 7, Field: 1, A: a, B: b}
					for n := lo; n <= hi; n++ {
						if d, e := checkOn(t, s, x, rec(7, n, 1)); e != api.OK || told(d.Rec) != told(rec(7, a*n+b, 1)) {
							t.Errorf("%d by %d and %d: %v, %d", n, a, b, toldDone(d), e)
						}
					}
					for n := min(a*lo, a*hi) + b; n <= max(a*lo, a*hi)+b; n++ {
						if checkBack(t, s, x, rec(7, n, 1), "", false) == api.ErrConv {
							lost++
						}
					}
				}
			}
		}
	}
	if lost < 10000 {
		t.Errorf("only %d numbers that OpScale does not make", lost)
	}
}

// P19.2: all kinds of lost data for OpRestore, and none.
func TestLost(t *testing.T) {
	good, bad := 0, 0
	for _, more := range list(whole(6, -most, most), pick(6, 257), pick(6, 1), whole(6, 0, 65535), text(6, 0)) {
		s := version(2, form(7, append(fields(), more)...))
		for _, f := range s.Forms[0].Fields {
			x := api.Step{Op: 2, Form: 7, Field: f.ID, V: values(f, 0)[0]}
			after, e := typing.On(s, x)
			if e != api.OK {
				t.Fatal(x, e)
			}
			r := records(after.Forms[0], 3)[3]
			for _, lost := range losts(f) {
				checkBack(t, s, x, r, lost, false)
				if checkBack(t, s, x, r, lost, true) == api.OK {
					good++
				} else {
					bad++
				}
			}
		}
	}
	if good < 100 || bad < 100 {
		t.Errorf("only %d values and %d other strings", good, bad)
	}
}

// P19.1, P19.2: a record of another form is unchanged, whatever the step and the lost data.
func TestOther(t *testing.T) {
	for _, id := range []int{0, 7, 200} {
		s := between(id)
		n := 0
		for _, x := range every(id) {
			if _, e := typing.On(s, x); e != api.OK {
				continue
			}
			for _, other := range []int{1, 100, 199} {
				r := rec(other, 1, "abc", -9, 4, 0, 1)
				if d, e := On(s, x, r); e != api.OK || toldDone(d) != toldDone(Done{Rec: r}) {
					t.Errorf("On(%v, %v) = %v, %d", x, told(r), toldDone(d), e)
				}
				for _, lost := range []string{"", "\x00", "hello"} {
					for _, with := range []bool{false, true} {
						if got, e := Back(s, x, r, lost, with); e != api.OK || told(got) != told(r) {
							t.Errorf("Back(%v, %v, %q, %v) = %v, %d", x, told(r), lost, with, told(got), e)
						}
					}
				}
				n++
			}
		}
		if n < 100 {
			t.Errorf("only %d steps", n)
		}
	}
}

// strangers returns records that belong to no form of between(7), nor of what a step makes of it.
func strangers() []api.Record {
	l := []api.Record{{}, rec(7), rec(8), rec(6, 42, "hi", 1, 1, 250), rec(-1, 0), rec(201, 1), rec(7, 42), rec(7, 42, "hi", 1), rec(1, 1, "abc", -9, 4, 0, 1, 0), rec(1, 2, "abc", -9, 4, 0, 1), rec(100, 1, "abcd", -9, 4, 0, 1), rec(199, 1, "abc", -10, 4, 0, 1), rec(1, 42, "hi", 1, 1, 250)}
	for _, n := range []int{math.MinInt, math.MinInt + 1, -most - 1, most + 1, 1 << 32, math.MaxInt32, math.MaxInt} {
		l = append(l, rec(n), rec(n, 42, "hi", 1, 1, 250), rec(7, n, "hi", 1, 1, 250), rec(7, 42, "hi", n, 1, 250), rec(7, 42, "hi", 1, n, 250), rec(7, 42, "hi", 1, 1, n), api.Record{Form: 7, Vals: make([]api.Value, 1000)})
	}
	r := rec(7, 42, "hi", 1, 1, 250)
	for i := range r.Vals {
		odd := rec(7, 42, "hi", 1, 1, 250)
		odd.Vals[i] = api.Value{N: 1, S: "a"}
		l = append(l, odd)
	}
	return append(l, rec(7, 42, strings.Repeat("a", 33), 1, 1, 250))
}

// P19.1, P19.2: a record that belongs to no form of the schema, in any way.
func TestValue(t *testing.T) {
	s, n := between(7), 0
	for _, x := range append(every(7), every(100)...) {
		after, e := typing.On(s, x)
		if e != api.OK {
			continue
		}
		for _, r := range strangers() {
			if d, e := On(s, x, r); e != api.ErrValue || toldDone(d) != toldDone(Done{}) {
				t.Errorf("On(%v, %v) = %v, %d", x, told(r), toldDone(d), e)
			}
			for _, lost := range []string{"", "bad"} {
				if f, ok := formIn(after, r.Form); ok && belongs(f, r) {
					continue
				}
				if got, e := Back(s, x, r, lost, lost != ""); e != api.ErrValue || told(got) != told(api.Record{}) {
					t.Errorf("Back(%v, %v) = %v, %d", x, told(r), told(got), e)
				}
			}
			n++
		}
		// A record with one value that is out of bounds, before the step and after it.
		for _, f := range s.Forms {
			spoiled(t, f, func(r api.Record) (string, api.Errno) {
				d, e := On(s, x, r)
				return toldDone(d), e
			}, toldDone(Done{}))
		}
		for _, f := range after.Forms {
			spoiled(t, f, func(r api.Record) (string, api.Errno) {
				got, e := Back(s, x, r, "bad", true)
				return told(got), e
			}, told(api.Record{}))
		}
	}
	if n < 1000 {
		t.Errorf("only %d records", n)
	}
}

// spoiled calls a function with records of which one value does not belong to the form, or one too many or too few does; it must return zero values and ErrValue.
func spoiled(t *testing.T, f api.Form, call func(api.Record) (string, api.Errno), zero string) {
	t.Helper()
	good := records(f, 3)[0]
	bad := func(r api.Record) {
		t.Helper()
		if got, e := call(r); e != api.ErrValue || got != zero {
			t.Errorf("%v of %v: %v, %d", told(r), f, got, e)
		}
	}
	for i, x := range f.Fields {
		odd := []api.Value{num(x.Lo - 1), num(x.Lo + 1<<42), str("a\x00")}
		if x.Kind == 4 {
			odd = []api.Value{num(1), num(-1), str(strings.Repeat("a", x.Most+1))}
		}
		for _, v := range odd {
			bad(api.Record{Form: f.ID, Vals: slices.Replace(slices.Clone(good.Vals), i, i+1, v)})
		}
		bad(api.Record{Form: f.ID, Vals: slices.Delete(slices.Clone(good.Vals), i, i+1)})
	}
	bad(api.Record{Form: f.ID, Vals: append(slices.Clone(good.Vals), api.Value{})})
	bad(api.Record{Form: 55, Vals: good.Vals})
}

// P19.1 to P19.3: the errors of typing.On come first, whatever the record and the lost data.
func TestTypingErrors(t *testing.T) {
	s := between(7)
	full := version(1, form(7, boolean(1), boolean(2), boolean(3), boolean(4), boolean(5), boolean(6), boolean(7), boolean(8)))
	tests := []struct {
		s    api.Schema
		x    api.Step
		want api.Errno
	}{
		{version(0), api.Step{Op: 10, Form: 7}, api.ErrArg}, {api.Schema{}, api.Step{}, api.ErrArg}, {s, api.Step{}, api.ErrArg}, {s, api.Step{Op: 11, Form: 7}, api.ErrArg}, {s, api.Step{Op: 10, Form: 7, A: 1}, api.ErrArg},
		{s, api.Step{Op: 21, Form: 7, Field: 1}, api.ErrArg}, {s, api.Step{Op: 29, Form: 7}, api.ErrArg}, {s, api.Step{Op: 30, Form: 7, Fields: fields()}, api.ErrArg}, {s, api.Step{Op: 30, Form: 9, Fields: fields()}, api.ErrArg},
		{version(2, form(8, boolean(1)), form(7, boolean(1))), api.Step{Op: 10, Form: 7}, api.ErrArg}, {version(2, form(7)), api.Step{Op: 10, Form: 7}, api.ErrArg},
		{s, api.Step{Op: 10, Form: 6}, api.ErrNone}, {s, api.Step{Op: 2, Form: 7, Field: 6}, api.ErrNone},
		{s, api.Step{Op: 9, Form: 7, Fields: fields()}, api.ErrTwice}, {s, api.Step{Op: 1, Form: 7, F: boolean(2)}, api.ErrTwice}, {s, api.Step{Op: 6, Form: 7, Field: 1, A: 3, To: 2}, api.ErrTwice},
		{s, api.Step{Op: 1, Form: 7, Place: 6, F: boolean(6)}, api.ErrRange}, {s, api.Step{Op: 7, Form: 7, Field: 1, Place: 5}, api.ErrRange},
		{s, api.Step{Op: 2, Form: 7, Field: 1, V: num(100)}, api.ErrType}, {s, api.Step{Op: 4, Form: 7, Field: 2, A: 1}, api.ErrType}, {s, api.Step{Op: 6, Form: 7, Field: 5, A: 2, To: 9}, api.ErrType}, {s, api.Step{Op: 5, Form: 7, Field: 3, A: 3, T: []int{0, 1}}, api.ErrType},
		{full, api.Step{Op: 1, Form: 7, F: boolean(9)}, api.ErrMany}, {version(1, form(7, boolean(1))), api.Step{Op: 2, Form: 7, Field: 1}, api.ErrMany},
	}
	for _, c := range tests {
		for _, r := range append(strangers(), rec(7, 42, "hi", 1, 1, 250), rec(1, 1, "abc", -9, 4, 0, 1), rec(7, 1, 1, 1, 1, 1, 1, 1, 1)) {
			if d, e := On(c.s, c.x, r); e != c.want || toldDone(d) != toldDone(Done{}) {
				t.Errorf("On(%v, %v, %v) = %v, %d, not %d", c.s, c.x, told(r), toldDone(d), e, c.want)
			}
			for _, with := range []bool{false, true} {
				if got, e := Back(c.s, c.x, r, "bad", with); e != c.want || told(got) != told(api.Record{}) {
					t.Errorf("Back(%v, %v, %v) = %v, %d, not %d", c.s, c.x, told(r), told(got), e, c.want)
				}
			}
		}
		for _, lost := range []string{"", "\x2a\x02hi\x01\x01\x01\x04", "bad"} {
			if got, e := Regain(c.s, c.x, lost); e != c.want || told(got) != told(api.Record{}) {
				t.Errorf("Regain(%v, %v, %q) = %v, %d, not %d", c.s, c.x, lost, told(got), e, c.want)
			}
		}
	}
}

// P19.3: records that were deleted, other strings, and other steps.
func TestRegain(t *testing.T) {
	for _, id := range []int{0, 7, 200} {
		s, x := between(id), api.Step{Op: 10, Form: id}
		want := rec(id, 42, "hi", 1, 1, 250)
		const lost = "\x2a\x02hi\x01\x01\x01\x04"
		if got, e := Regain(s, x, lost); e != api.OK || told(got) != told(want) {
			t.Errorf("Regain(%v, %q) = %v, %d", x, lost, told(got), e)
		}
		bad := []string{lost + "\x00", "\x00" + lost, "\x64" + lost[1:], "\x2a\x03hi\x01\x01\x01\x04", "\x2a\x01hi\x01\x01\x01\x04", "\x2a\x05hello\x01\x01\x01\x04", "\x2a\x02hi\x03\x01\x01\x04", "\x2a\x02hi\x01\x02\x01\x04", "\x2a\x02hi\x01\x01\x01\x37", strings.Repeat("\x00", 100)}
		for i := range lost {
			bad = append(bad, lost[:i])
		}
		for _, l := range bad {
			if got, e := Regain(s, x, l); e != api.ErrDamage || told(got) != told(api.Record{}) {
				t.Errorf("Regain(%v, %q) = %v, %d", x, l, told(got), e)
			}
		}
		f, _ := formIn(s, id)
		for _, r := range records(f, 400) {
			if d, e := checkOn(t, s, x, r); e != api.OK || !d.Gone || !d.Has || told(d.Rec) != told(api.Record{}) {
				t.Errorf("On(%v, %v) = %v, %d", x, told(r), toldDone(d), e)
			}
		}
		for _, y := range every(id) {
			if _, e := typing.On(s, y); e != api.OK || y.Op == 10 {
				continue
			}
			for _, l := range []string{lost, "", "\x2a"} {
				if got, e := Regain(s, y, l); e != api.ErrArg || told(got) != told(api.Record{}) {
					t.Errorf("Regain(%v, %q) = %v, %d", y, l, told(got), e)
				}
			}
		}
	}
}

// P19.1, P19.2: the greatest numbers that steps may compute with.
func TestBounds(t *testing.T) {
	tests := []struct {
		f api.Field
		x api.Step
	}{
		{whole(1, -most, most), api.Step{Op: 4, A: 1}}, {whole(1, -most, most), api.Step{Op: 4, A: -1}}, {whole(1, -most, 0), api.Step{Op: 4, A: 1, B: most}}, {whole(1, 0, most), api.Step{Op: 4, A: -1, B: most}},
		{whole(1, -1<<20, 1<<20), api.Step{Op: 4, A: 1 << 20}}, {whole(1, -1<<20, 1<<20), api.Step{Op: 4, A: -1 << 20}}, {whole(1, -1<<21, 0), api.Step{Op: 4, A: 1 << 20, B: most}}, {whole(1, 0, 1<<21), api.Step{Op: 4, A: 1 << 20, B: -most}}, {whole(1, -1<<21, 0), api.Step{Op: 4, A: -1 << 20, B: -most}},
		{whole(1, 0, most), api.Step{Op: 6, A: 2, To: 2}}, {whole(1, 0, most), api.Step{Op: 6, A: 1 << 20, To: 2}}, {whole(1, 0, most-1), api.Step{Op: 6, A: 1 << 20, To: 2}}, {whole(1, 0, most-1), api.Step{Op: 6, A: 1<<20 - 1, To: 2}}, {whole(1, 0, 0), api.Step{Op: 6, A: 1 << 20, To: 2}}, {whole(1, 0, 1), api.Step{Op: 6, A: 1 << 20, To: 2}},
		{whole(1, -most, most), api.Step{Op: 2, V: num(-most)}}, {whole(1, most, most), api.Step{Op: 2, V: num(most)}}, {pick(1, 1000), api.Step{Op: 2, V: num(999)}}, {text(1, 32), api.Step{Op: 2, V: str(strings.Repeat("\xff", 32))}},
		{whole(1, 0, 0), api.Step{Op: 3, F: whole(1, -most, most)}}, {pick(1, 1), api.Step{Op: 3, F: pick(1, 1000)}}, {text(1, 0), api.Step{Op: 3, F: text(1, 32)}},
		{boolean(1), api.Step{Op: 8, To: 255}}, {boolean(1), api.Step{Op: 7, Place: 1}}, {whole(1, -most, most), api.Step{Op: 10}},
	}
	for _, c := range tests {
		for _, l := range [][]api.Field{list(c.f, boolean(9)), list(boolean(9), c.f), list(text(9, 3), c.f, pick(8, 2))} {
			s := version(65535, form(200, l...))
			c.x.Form = 200
			if c.x.Op != 10 {
				c.x.Field = 1
			}
			after, e := typing.On(s, c.x)
			if e != api.OK {
				t.Fatalf("%v of %v: %d", c.x, c.f, e)
			}
			for _, r := range records(s.Forms[0], 0) {
				checkOn(t, s, c.x, r)
			}
			for _, f := range after.Forms {
				for _, r := range records(f, 0) {
					checkBack(t, s, c.x, r, "", false)
				}
			}
		}
	}
	table := make([]int, 64)
	for i := range table {
		table[i] = 999 - i*i%997
	}
	s, x := version(1, form(0, pick(0, 64))), api.Step{Op: 5, A: 1000, T: table}
	for i := range 64 {
		if d, e := checkOn(t, s, x, rec(0, i)); e != api.OK || told(d.Rec) != told(rec(0, table[i])) {
			t.Errorf("%d of a table of 64 numbers: %v, %d", i, toldDone(d), e)
		}
	}
	for n := range 1000 {
		checkBack(t, s, x, rec(0, n), "", false)
	}
}

// someField returns a random field.
func someField(r *rand.Rand, id int) api.Field {
	switch r.Intn(5) {
	case 0:
		return boolean(id)
	case 1:
		return pick(id, 1+r.Intn(5))
	case 2:
		return text(id, r.Intn(7))
	case 3:
		return whole(id, 0, r.Intn(1<<r.Intn(41)))
	}
	lo := r.Intn(1<<r.Intn(41)) - r.Intn(1<<r.Intn(41))
	return whole(id, lo, lo+r.Intn(1<<r.Intn(40)))
}

// someValue returns a random value of a field.
func someValue(r *rand.Rand, f api.Field) api.Value {
	if f.Kind == 4 {
		b := make([]byte, r.Intn(f.Most+1))
		r.Read(b)
		return str(string(b))
	}
	if r.Intn(3) == 0 {
		return num(f.Lo + r.Intn(min(3, top(f)+1)))
	}
	return num(f.Lo + r.Intn(top(f)+1))
}

// someStep returns a random step for a form, which mostly can be applied.
func someStep(r *rand.Rand, f api.Form) api.Step {
	at := r.Intn(len(f.Fields))
	x, old := api.Step{Op: 1 + r.Intn(10), Form: f.ID, Field: f.Fields[at].ID}, f.Fields[at]
	switch x.Op {
	case 1:
		x.Field, x.Place, x.F = 0, r.Intn(len(f.Fields)+1), someField(r, 200+r.Intn(50))
		x.V = someValue(r, x.F)
	case 2:
		x.V = someValue(r, old)
	case 3:
		x.F = old
		switch old.Kind {
		case 1:
			x.F.Lo, x.F.Hi = old.Lo-r.Intn(9), old.Hi+r.Intn(9)
		case 3, 4:
			x.F.Most += r.Intn(9)
		}
	case 4:
		x.A, x.B = (1+r.Intn(1<<r.Intn(9)))*(1-2*r.Intn(2)), r.Intn(1<<r.Intn(30))-r.Intn(1<<r.Intn(30))
	case 5:
		x.T = r.Perm(max(1, old.Most) + r.Intn(4))
		x.A, x.T = len(x.T), x.T[:max(1, old.Most)]
	case 6:
		x.A, x.To = 2+r.Intn(1<<r.Intn(20)), 199
	case 7:
		x.Place = r.Intn(len(f.Fields))
	case 8:
		x.To = 198
	case 9:
		x = api.Step{Op: 9, Form: 150, Fields: list(someField(r, 1), someField(r, 2))}
	case 10:
		x.Field = 0
	}
	return x
}

// P19.1 to P19.4: random steps of random forms, on random records, against the chapter.
func TestRandom(t *testing.T) {
	r := rand.New(rand.NewSource(191))
	good, left := 0, 0
	for range 60000 {
		s := version(1 + r.Intn(65535))
		for _, id := range []int{3, 9} {
			f := form(id)
			for _, k := range r.Perm(150)[:1+r.Intn(8)] {
				f.Fields = append(f.Fields, someField(r, k))
			}
			s.Forms = append(s.Forms, f)
		}
		x := someStep(r, s.Forms[r.Intn(2)])
		after, e := typing.On(s, x)
		pool := append(slices.Clone(s.Forms), after.Forms...)
		f := pool[r.Intn(len(pool))]
		one := api.Record{Form: f.ID}
		for _, y := range f.Fields {
			one.Vals = append(one.Vals, someValue(r, y))
		}
		d, bad := checkOn(t, s, x, one)
		if bad == api.OK {
			good++
			checkBack(t, s, x, d.Rec, "", false)
		}
		b := make([]byte, r.Intn(6))
		r.Read(b)
		if checkBack(t, s, x, one, string(b), r.Intn(2) == 0) == api.OK && e == api.OK {
			left++
		}
	}
	if good < 20000 || left < 15000 {
		t.Errorf("only %d records on and %d back", good, left)
	}
}

// R1: members of any size.
func TestOdd(t *testing.T) {
	for _, n := range []int{math.MinInt, math.MinInt + 1, -1, 0, 1, 7, 10, 21, 1 << 32, math.MaxInt} {
		f := whole(n, n, n)
		f.Kind, f.Most = n, n
		for op := -1; op < 33; op++ {
			odd := api.Step{Op: op, Form: n, Field: n, Place: n, To: n, A: n, B: n, F: f, V: num(n), T: []int{n, n}, Fields: list(f, f)}
			for _, s := range []api.Schema{{}, between(7), version(n, form(n, f, f)), version(1, form(n))} {
				for _, x := range []api.Step{odd, {Op: op, Form: n, Field: n, To: n}, {Op: op, Form: n}} {
					for _, r := range []api.Record{{}, rec(n, n, n), rec(7, 42, "hi", 1, 1, 250), rec(7, n), rec(n)} {
						checkOn(t, s, x, r)
						checkBack(t, s, x, r, "\x01", true)
					}
					Regain(s, x, "\x01\x02")
				}
			}
		}
	}
}

// roomy returns copies with spare capacity behind all lists, and a function that reports whether neither they nor the capacity have been modified.
func roomy(s api.Schema, x api.Step, r api.Record) (api.Schema, api.Step, api.Record, func() bool) {
	s.Forms = append(make([]api.Form, 0, len(s.Forms)+3), s.Forms...)
	for i, f := range s.Forms {
		s.Forms[i].Fields = append(make([]api.Field, 0, 12), f.Fields...)
	}
	x.T, x.Fields = append(make([]int, 0, 9), x.T...), append(make([]api.Field, 0, 9), x.Fields...)
	r.Vals = append(make([]api.Value, 0, 12), r.Vals...)
	now := func() string {
		all := fmt.Sprint(s.Version, s.Forms[:cap(s.Forms)], x) + told(api.Record{Vals: r.Vals[:cap(r.Vals)]})
		for _, f := range s.Forms {
			all += fmt.Sprint(f.Fields[:cap(f.Fields)])
		}
		return all + fmt.Sprint(x.T[:cap(x.T)], x.Fields[:cap(x.Fields)])
	}
	first := now()
	return s, x, r, func() bool { return now() == first }
}

// R3: neither arguments nor their spare capacity are modified, and results share no memory with them or with other results.
func TestMemory(t *testing.T) {
	wipe := func(r api.Record) { clear(r.Vals[:cap(r.Vals)]) }
	n := 0
	for _, x := range append(every(7), every(100)...) {
		after, e := typing.On(between(7), x)
		if e != api.OK {
			continue
		}
		for _, f := range append(between(7).Forms, after.Forms...) {
			s, x, r, same := roomy(between(7), x, records(f, 3)[0])
			want, bad := expectedOn(s, x, r)
			a, _ := On(s, x, r)
			b, _ := On(s, x, r)
			wipe(a.Rec)
			back, worse := expectedBack(s, x, r, "", false)
			c, _ := Back(s, x, r, "", false)
			d, _ := Back(s, x, r, "", false)
			wipe(c)
			if !same() {
				t.Fatalf("%v, %v: an argument was modified", x, told(r))
			}
			wipe(r)
			if bad == api.OK && toldDone(b) != toldDone(want) || worse == api.OK && x.Form == r.Form && told(d) != told(back) {
				t.Fatalf("%v, %v: a result shares memory", x, told(r))
			}
			n++
		}
	}
	s, x, _, same := roomy(between(7), api.Step{Op: 10, Form: 7}, api.Record{})
	const lost = "\x2a\x02hi\x01\x01\x01\x04"
	a, _ := Regain(s, x, lost)
	b, _ := Regain(s, x, lost)
	wipe(a)
	if !same() || told(b) != told(rec(7, 42, "hi", 1, 1, 250)) || n < 1000 {
		t.Errorf("%d steps; a result of Regain shares memory", n)
	}
}

// R3: what is behind the end of a slice does not belong to it.
func TestEnds(t *testing.T) {
	s := between(7)
	x, r := api.Step{Op: 5, Form: 7, Field: 3, A: 5, T: []int{4, 3, 0, 1}[:3]}, rec(7, 42, "hi", 1, 1, 250, 9)
	r.Vals = r.Vals[:5]
	if d, e := On(s, x, r); e != api.OK || told(d.Rec) != told(rec(7, 42, "hi", 3, 1, 250)) {
		t.Errorf("%v, %d", toldDone(d), e)
	}
	if got, e := Back(s, x, r, "", false); e != api.ErrConv || told(got) != told(api.Record{}) {
		t.Errorf("an element behind the end of the table: %v, %d", told(got), e)
	}
	r.Vals = r.Vals[:4]
	if d, e := On(s, x, r); e != api.ErrValue || toldDone(d) != toldDone(Done{}) {
		t.Errorf("a value behind the end: %v, %d", toldDone(d), e)
	}
	s.Forms = s.Forms[:1]
	if d, e := On(s, api.Step{Op: 9, Form: 8, Fields: fields()}, rec(7, 42, "hi", 1, 1, 250)); e != api.ErrValue || toldDone(d) != toldDone(Done{}) {
		t.Errorf("a form behind the end: %v, %d", toldDone(d), e)
	}
}
