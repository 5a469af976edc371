package typing

import (
	"fmt"
	"math"
	"math/rand"
	"slices"
	"strings"
	"testing"

	"instar/api"
	"instar/field"
	"instar/schema"
	"instar/step"
)

func whole(id, lo, hi int) api.Field { return api.Field{ID: id, Kind: 1, Lo: lo, Hi: hi} }

func boolean(id int) api.Field { return api.Field{ID: id, Kind: 2} }

func pick(id, most int) api.Field { return api.Field{ID: id, Kind: 3, Most: most} }

func text(id, most int) api.Field { return api.Field{ID: id, Kind: 4, Most: most} }

func num(n int) api.Value { return api.Value{N: n} }

func str(s string) api.Value { return api.Value{S: s} }

func list(l ...api.Field) []api.Field { return l }

func form(id int, l ...api.Field) api.Form { return api.Form{ID: id, Fields: l} }

func version(n int, l ...api.Form) api.Schema { return api.Schema{Version: n, Forms: l} }

// upTo returns the numbers from 0 to n - 1.
func upTo(n int) []int {
	l := []int{}
	for i := range n {
		l = append(l, i)
	}
	return l
}

// booleans returns n KBool fields with IDs from first on.
func booleans(n, first int) []api.Field {
	l := []api.Field{}
	for i := range n {
		l = append(l, boolean(first+i))
	}
	return l
}

// forms returns n forms with even IDs from 0 on.
func forms(n int) []api.Form {
	l := []api.Form{}
	for i := range n {
		l = append(l, form(2*i, boolean(i), whole(100, 0, i)))
	}
	return l
}

// equal reports whether two schemas are equal, number by number.
func equal(a, b api.Schema) bool {
	if a.Version != b.Version || len(a.Forms) != len(b.Forms) {
		return false
	}
	for i, f := range a.Forms {
		if f.ID != b.Forms[i].ID || len(f.Fields) != len(b.Forms[i].Fields) {
			return false
		}
		for k, x := range f.Fields {
			if x != b.Forms[i].Fields[k] {
				return false
			}
		}
	}
	return true
}

// clone returns a copy of a schema that shares no list with it.
func clone(s api.Schema) api.Schema {
	c := api.Schema{Version: s.Version}
	for _, f := range s.Forms {
		c.Forms = append(c.Forms, form(f.ID, append([]api.Field{}, f.Fields...)...))
	}
	return c
}

// uses reports whether steps with an Op use Field.
func uses(op int) bool { return strings.Contains(" 2 3 4 5 6 7 8 ", fmt.Sprintf(" %d ", op)) }

// named is what a step names, as a schema has it.
type named struct {
	fields      []api.Field
	form, field bool
	ids         map[int]bool
	old         api.Field
}

// look returns what a step names.
func look(s api.Schema, t api.Step) named {
	n := named{ids: map[int]bool{}}
	for _, f := range s.Forms {
		if f.ID != t.Form {
			continue
		}
		n.form, n.fields = true, f.Fields
		for _, x := range f.Fields {
			n.ids[x.ID] = true
			if x.ID == t.Field {
				n.field, n.old = true, x
			}
		}
	}
	return n
}

// misfit reports whether a step cannot be applied to the field as it is, as number 5 of the chapter's list has it.
func misfit(x api.Field, t api.Step) bool {
	switch t.Op {
	case 2:
		return !field.Has(x, t.V)
	case 3:
		return !field.Wider(x, t.F)
	case 4:
		for _, n := range []int{x.Lo, x.Hi} {
			if m := t.A*n + t.B; m < -1<<40 || m > 1<<40 {
				return true
			}
		}
		return x.Kind != 1
	case 5:
		return x.Kind != 3 || x.Most != len(t.T)
	case 6:
		return x.Kind != 1 || x.Lo != 0
	}
	return false
}

// put returns a list with a field at an index.
func put(l []api.Field, at int, x api.Field) []api.Field {
	more := []api.Field{}
	for i := 0; i <= len(l); i++ {
		if i == at {
			more = append(more, x)
		}
		if i < len(l) {
			more = append(more, l[i])
		}
	}
	return more
}

// remade returns the fields that a step which can be applied makes of those of its form.
func remade(l []api.Field, t api.Step) []api.Field {
	if t.Op == 1 {
		return put(l, t.Place, t.F)
	}
	out, moved := []api.Field{}, api.Field{}
	for _, x := range l {
		switch {
		case x.ID != t.Field:
			out = append(out, x)
		case t.Op == 3:
			out = append(out, t.F)
		case t.Op == 4 && t.A > 0:
			out = append(out, whole(x.ID, t.A*x.Lo+t.B, t.A*x.Hi+t.B))
		case t.Op == 4:
			out = append(out, whole(x.ID, t.A*x.Hi+t.B, t.A*x.Lo+t.B))
		case t.Op == 5:
			out = append(out, pick(x.ID, t.A))
		case t.Op == 6 && x.Hi < t.A:
			out = append(out, whole(x.ID, 0, 0), whole(t.To, 0, x.Hi))
		case t.Op == 6:
			out = append(out, whole(x.ID, 0, (x.Hi-x.Hi%t.A)/t.A), whole(t.To, 0, t.A-1))
		case t.Op == 7:
			moved = x
		case t.Op == 8:
			x.ID = t.To
			out = append(out, x)
		}
	}
	if t.Op == 7 {
		return put(out, t.Place, moved)
	}
	return out
}

// expected returns what On must return.
func expected(s api.Schema, t api.Step) (api.Schema, api.Errno) {
	if !schema.Right(s) || !step.Right(t) || t.Op < 1 || t.Op > 10 {
		return api.Schema{}, api.ErrArg
	}
	n := look(s, t)
	switch {
	case t.Op != 9 && !n.form, uses(t.Op) && !n.field:
		return api.Schema{}, api.ErrNone
	case t.Op == 9 && n.form, t.Op == 1 && n.ids[t.F.ID], (t.Op == 6 || t.Op == 8) && n.ids[t.To]:
		return api.Schema{}, api.ErrTwice
	case t.Op == 1 && t.Place > len(n.fields), t.Op == 7 && t.Place > len(n.fields)-1:
		return api.Schema{}, api.ErrRange
	case misfit(n.old, t):
		return api.Schema{}, api.ErrType
	}
	out := api.Schema{Version: s.Version}
	for _, f := range s.Forms {
		switch {
		case f.ID != t.Form:
			out.Forms = append(out.Forms, f)
		case t.Op != 10:
			out.Forms = append(out.Forms, form(f.ID, remade(f.Fields, t)...))
		}
	}
	if t.Op == 9 {
		out.Forms = append(out.Forms, form(t.Form, t.Fields...))
		slices.SortFunc(out.Forms, func(a, b api.Form) int { return a.ID - b.ID })
	}
	if !schema.Right(out) {
		return api.Schema{}, api.ErrMany
	}
	return out, api.OK
}

// checkOn compares On with what the chapter requires, and P16.3 with what it returned.
func checkOn(t *testing.T, s api.Schema, x api.Step) api.Errno {
	t.Helper()
	got, e := On(s, x)
	want, bad := expected(s, x)
	if e != bad || !equal(got, want) {
		t.Fatalf("On(%v, %v) = %v, %d, not %v, %d", s, x, got, e, want, bad)
	}
	if e != api.OK {
		return e
	}
	if !schema.Right(got) || got.Version != s.Version {
		t.Fatalf("On(%v, %v) = %v: not valid, or of another version", s, x, got)
	}
	others := func(s api.Schema) api.Schema {
		c := clone(s)
		c.Forms = slices.DeleteFunc(c.Forms, func(f api.Form) bool { return f.ID == x.Form })
		return c
	}
	if !equal(others(got), others(s)) {
		t.Fatalf("On(%v, %v) = %v: another form has changed", s, x, got)
	}
	return e
}

// P16.1: what each step makes of the fields of its form, between two other forms.
func TestFields(t *testing.T) {
	a, b, c, d, z := whole(1, 0, 100), pick(2, 3), text(3, 5), boolean(9), whole(6, -5, 7)
	old := list(a, b, c, d, z)
	tests := []struct {
		x    api.Step
		want []api.Field
	}{
		{api.Step{Op: 1, F: text(8, 2), V: str("ab")}, list(text(8, 2), a, b, c, d, z)},
		{api.Step{Op: 1, Place: 2, F: whole(0, 5, 9), V: num(5)}, list(a, b, whole(0, 5, 9), c, d, z)},
		{api.Step{Op: 1, Place: 5, F: boolean(255)}, list(a, b, c, d, z, boolean(255))},
		{api.Step{Op: 2, Field: 1, V: num(100)}, list(b, c, d, z)},
		{api.Step{Op: 2, Field: 3, V: str("abcde")}, list(a, b, d, z)},
		{api.Step{Op: 2, Field: 6, V: num(-5)}, list(a, b, c, d)},
		{api.Step{Op: 3, Field: 1, F: whole(1, -1, 101)}, list(whole(1, -1, 101), b, c, d, z)},
		{api.Step{Op: 3, Field: 1, F: a}, old},
		{api.Step{Op: 3, Field: 2, F: pick(2, 1000)}, list(a, pick(2, 1000), c, d, z)},
		{api.Step{Op: 3, Field: 3, F: text(3, 32)}, list(a, b, text(3, 32), d, z)},
		{api.Step{Op: 3, Field: 9, F: d}, old},
		{api.Step{Op: 4, Field: 1, A: -2, B: 1}, list(whole(1, -199, 1), b, c, d, z)},
		{api.Step{Op: 4, Field: 6, A: 3, B: -4}, list(a, b, c, d, whole(6, -19, 17))},
		{api.Step{Op: 4, Field: 6, A: -1}, list(a, b, c, d, whole(6, -7, 5))},
		{api.Step{Op: 5, Field: 2, A: 9, T: []int{8, 0, 3}}, list(a, pick(2, 9), c, d, z)},
		{api.Step{Op: 5, Field: 2, A: 3, T: []int{1, 2, 0}}, old},
		{api.Step{Op: 6, Field: 1, A: 7, To: 4}, list(whole(1, 0, 14), whole(4, 0, 6), b, c, d, z)},
		{api.Step{Op: 6, Field: 1, A: 100, To: 4}, list(whole(1, 0, 1), whole(4, 0, 99), b, c, d, z)},
		{api.Step{Op: 6, Field: 1, A: 101, To: 4}, list(whole(1, 0, 0), whole(4, 0, 100), b, c, d, z)},
		{api.Step{Op: 6, Field: 1, A: 102, To: 4}, list(whole(1, 0, 0), whole(4, 0, 100), b, c, d, z)},
		{api.Step{Op: 6, Field: 1, A: 1 << 20, To: 0}, list(whole(1, 0, 0), whole(0, 0, 100), b, c, d, z)},
		{api.Step{Op: 7, Field: 1, Place: 4}, list(b, c, d, z, a)},
		{api.Step{Op: 7, Field: 1, Place: 2}, list(b, c, a, d, z)},
		{api.Step{Op: 7, Field: 3, Place: 2}, old},
		{api.Step{Op: 7, Field: 9, Place: 1}, list(a, d, b, c, z)},
		{api.Step{Op: 7, Field: 6}, list(z, a, b, c, d)},
		{api.Step{Op: 8, Field: 1, To: 0}, list(whole(0, 0, 100), b, c, d, z)},
		{api.Step{Op: 8, Field: 9, To: 255}, list(a, b, c, boolean(255), z)},
		{api.Step{Op: 8, Field: 3, To: 4}, list(a, b, text(4, 5), d, z)},
	}
	for _, c := range tests {
		for _, id := range []int{0, 7, 200} {
			c.x.Form = id
			s, want := version(3), version(3)
			for k := range 201 {
				switch {
				case k == id:
					s.Forms, want.Forms = append(s.Forms, form(k, old...)), append(want.Forms, form(k, c.want...))
				case k%99 == 1:
					s.Forms, want.Forms = append(s.Forms, form(k, old...)), append(want.Forms, form(k, old...))
				}
			}
			if got, e := On(s, c.x); e != api.OK || !equal(got, want) {
				t.Errorf("On(%v, %v) = %v, %d, not %v", s, c.x, got, e, want)
			}
			checkOn(t, s, c.x)
		}
	}
}

// P16.1: forms are added in increasing order of their IDs, and removed.
func TestForms(t *testing.T) {
	l := forms(7)
	fields := list(text(5, 2), boolean(1))
	for at := range 8 {
		id := 2*at - 1
		if at == 0 {
			l[0].ID, id = 1, 0
		}
		want := version(65535, slices.Insert(slices.Clone(l), at, form(id, fields...))...)
		got, e := On(version(65535, l...), api.Step{Op: 9, Form: id, Fields: fields})
		if e != api.OK || !equal(got, want) {
			t.Errorf("a form %d: %v, %d, not %v", id, got, e, want)
		}
		if got, e = On(want, api.Step{Op: 10, Form: id}); e != api.OK || !equal(got, version(65535, l...)) {
			t.Errorf("without form %d: %v, %d", id, got, e)
		}
		l[0].ID = 0
	}
	if got, e := On(version(1), api.Step{Op: 9, Form: 200, Fields: fields}); e != api.OK || !equal(got, version(1, form(200, fields...))) {
		t.Errorf("the first form: %v, %d", got, e)
	}
	if got, e := On(version(1, form(200, fields...)), api.Step{Op: 10, Form: 200}); e != api.OK || !equal(got, version(1)) {
		t.Errorf("without the last form: %v, %d", got, e)
	}
}

// P16.1: each error, at its bounds, for a form 7.
func TestErrors(t *testing.T) {
	a, b, big := whole(1, 0, 100), pick(2, 3), 1<<40
	few, seven, eight := list(a, b, text(3, 5), boolean(9)), booleans(7, 1), booleans(8, 1)
	full := func(x api.Field) []api.Field { return list(text(51, 32), text(52, 29-field.Size(x)+1), x) } // 64 bytes
	tests := []struct {
		fields []api.Field
		x      api.Step
		want   api.Errno
	}{
		// ErrNone: only for Field if the Op uses it. (Form is tested with TestMissing.)
		{few, api.Step{Op: 2, Field: 4}, api.ErrNone}, {few, api.Step{Op: 3, Field: 4, F: boolean(4)}, api.ErrNone}, {few, api.Step{Op: 4, Field: 0, A: 1}, api.ErrNone}, {few, api.Step{Op: 5, Field: 4, A: 3, T: upTo(3)}, api.ErrNone},
		{few, api.Step{Op: 6, Field: 4, A: 2, To: 5}, api.ErrNone}, {few, api.Step{Op: 7, Field: 4}, api.ErrNone}, {few, api.Step{Op: 8, Field: 4, To: 5}, api.ErrNone}, {few, api.Step{Op: 1, F: boolean(0)}, api.OK}, {few, api.Step{Op: 10}, api.OK},
		// ErrTwice.
		{few, api.Step{Op: 1, F: boolean(1)}, api.ErrTwice}, {few, api.Step{Op: 1, F: boolean(9)}, api.ErrTwice}, {few, api.Step{Op: 1, F: boolean(10)}, api.OK}, {few, api.Step{Op: 9, Fields: few}, api.ErrTwice}, {few, api.Step{Op: 9, Fields: list(boolean(77))}, api.ErrTwice},
		{few, api.Step{Op: 6, Field: 1, A: 2, To: 9}, api.ErrTwice}, {few, api.Step{Op: 6, Field: 1, A: 2, To: 2}, api.ErrTwice}, {few, api.Step{Op: 6, Field: 1, A: 2, To: 8}, api.OK}, {few, api.Step{Op: 8, Field: 9, To: 1}, api.ErrTwice}, {few, api.Step{Op: 8, Field: 1, To: 3}, api.ErrTwice},
		// ErrRange.
		{few, api.Step{Op: 1, Place: 4, F: boolean(0)}, api.OK}, {few, api.Step{Op: 1, Place: 5, F: boolean(0)}, api.ErrRange}, {few, api.Step{Op: 1, Place: 8, F: boolean(0)}, api.ErrRange}, {seven, api.Step{Op: 1, Place: 7, F: boolean(0)}, api.OK}, {seven, api.Step{Op: 1, Place: 8, F: boolean(0)}, api.ErrRange},
		{few, api.Step{Op: 7, Field: 1, Place: 3}, api.OK}, {few, api.Step{Op: 7, Field: 1, Place: 4}, api.ErrRange}, {few, api.Step{Op: 7, Field: 9, Place: 8}, api.ErrRange}, {eight, api.Step{Op: 7, Field: 1, Place: 7}, api.OK}, {eight, api.Step{Op: 7, Field: 1, Place: 8}, api.ErrRange},
		{list(a), api.Step{Op: 7, Field: 1}, api.OK}, {list(a), api.Step{Op: 7, Field: 1, Place: 1}, api.ErrRange},
		// ErrType of OpDrop and OpWiden.
		{few, api.Step{Op: 2, Field: 1, V: num(100)}, api.OK}, {few, api.Step{Op: 2, Field: 1, V: num(101)}, api.ErrType}, {few, api.Step{Op: 2, Field: 1, V: num(-1)}, api.ErrType}, {few, api.Step{Op: 2, Field: 1, V: str("a")}, api.ErrType}, {few, api.Step{Op: 2, Field: 2, V: num(3)}, api.ErrType}, {few, api.Step{Op: 2, Field: 2, V: num(2)}, api.OK},
		{few, api.Step{Op: 2, Field: 3, V: str("abcde")}, api.OK}, {few, api.Step{Op: 2, Field: 3, V: str("abcdef")}, api.ErrType}, {few, api.Step{Op: 2, Field: 3, V: num(1)}, api.ErrType}, {few, api.Step{Op: 2, Field: 9, V: num(1)}, api.OK}, {few, api.Step{Op: 2, Field: 9, V: num(2)}, api.ErrType},
		{few, api.Step{Op: 3, Field: 1, F: whole(1, 1, 100)}, api.ErrType}, {few, api.Step{Op: 3, Field: 1, F: whole(1, 0, 99)}, api.ErrType}, {few, api.Step{Op: 3, Field: 1, F: whole(1, 0, 100)}, api.OK}, {few, api.Step{Op: 3, Field: 1, F: pick(1, 101)}, api.ErrType}, {few, api.Step{Op: 3, Field: 2, F: pick(2, 2)}, api.ErrType}, {few, api.Step{Op: 3, Field: 2, F: whole(2, 0, 2)}, api.ErrType},
		{few, api.Step{Op: 3, Field: 3, F: text(3, 4)}, api.ErrType}, {few, api.Step{Op: 3, Field: 9, F: whole(9, 0, 1)}, api.ErrType}, {few, api.Step{Op: 3, Field: 9, F: pick(9, 2)}, api.ErrType},
		// ErrType of OpScale: another kind, and each new bound at each end of the range.
		{few, api.Step{Op: 4, Field: 2, A: 1}, api.ErrType}, {few, api.Step{Op: 4, Field: 3, A: 1}, api.ErrType}, {few, api.Step{Op: 4, Field: 9, A: 1}, api.ErrType}, {few, api.Step{Op: 4, Field: 1, A: 1, B: big - 100}, api.OK}, {few, api.Step{Op: 4, Field: 1, A: 1, B: big - 99}, api.ErrType}, {few, api.Step{Op: 4, Field: 1, A: 1, B: -big}, api.OK},
		{few, api.Step{Op: 4, Field: 1, A: -1, B: -big + 100}, api.OK}, {few, api.Step{Op: 4, Field: 1, A: -1, B: -big + 99}, api.ErrType}, {few, api.Step{Op: 4, Field: 1, A: -1, B: big}, api.OK}, {few, api.Step{Op: 4, Field: 1, A: 1 << 20, B: big}, api.ErrType},
		{list(whole(1, -1<<20, 1<<20)), api.Step{Op: 4, Field: 1, A: 1 << 20}, api.OK}, {list(whole(1, -1<<20, 1<<20)), api.Step{Op: 4, Field: 1, A: -1 << 20}, api.OK}, {list(whole(1, -1<<20, 0)), api.Step{Op: 4, Field: 1, A: 1 << 20, B: -1}, api.ErrType}, {list(whole(1, -1<<20, 0)), api.Step{Op: 4, Field: 1, A: -1 << 20, B: 1}, api.ErrType},
		{list(whole(1, big, big)), api.Step{Op: 4, Field: 1, A: 2, B: -big}, api.OK}, {list(whole(1, big-1, big)), api.Step{Op: 4, Field: 1, A: 3, B: -big}, api.ErrType}, {list(whole(1, -big, big)), api.Step{Op: 4, Field: 1, A: 1 << 20, B: big}, api.ErrType}, {list(whole(1, -big, big)), api.Step{Op: 4, Field: 1, A: -1 << 20, B: -big}, api.ErrType}, {list(whole(1, -big, big)), api.Step{Op: 4, Field: 1, A: -1}, api.OK},
		// ErrType of OpMap and OpSplit.
		{few, api.Step{Op: 5, Field: 2, A: 4, T: upTo(2)}, api.ErrType}, {few, api.Step{Op: 5, Field: 2, A: 4, T: upTo(4)}, api.ErrType}, {few, api.Step{Op: 5, Field: 2, A: 4, T: upTo(3)}, api.OK}, {few, api.Step{Op: 5, Field: 1, A: 1, T: upTo(1)}, api.ErrType}, {few, api.Step{Op: 5, Field: 9, A: 2, T: upTo(2)}, api.ErrType}, {few, api.Step{Op: 5, Field: 3, A: 5, T: upTo(5)}, api.ErrType},
		{list(pick(1, 64)), api.Step{Op: 5, Field: 1, A: 1000, T: upTo(64)}, api.OK}, {list(pick(1, 65)), api.Step{Op: 5, Field: 1, A: 1000, T: upTo(64)}, api.ErrType}, {list(pick(1, 1)), api.Step{Op: 5, Field: 1, A: 1, T: upTo(1)}, api.OK},
		{few, api.Step{Op: 6, Field: 2, A: 2}, api.ErrType}, {few, api.Step{Op: 6, Field: 3, A: 2}, api.ErrType}, {few, api.Step{Op: 6, Field: 9, A: 2}, api.ErrType}, {list(whole(1, 1, 9)), api.Step{Op: 6, Field: 1, A: 2}, api.ErrType}, {list(whole(1, -1, 9)), api.Step{Op: 6, Field: 1, A: 2}, api.ErrType}, {list(whole(1, 0, 0)), api.Step{Op: 6, Field: 1, A: 2}, api.OK}, {list(whole(1, 0, big)), api.Step{Op: 6, Field: 1, A: 1 << 20}, api.OK},
		// ErrMany: no field, 9 fields, 65 bytes.
		{list(a), api.Step{Op: 2, Field: 1}, api.ErrMany}, {list(a, b), api.Step{Op: 2, Field: 1}, api.OK}, {eight, api.Step{Op: 1, F: boolean(0)}, api.ErrMany}, {eight, api.Step{Op: 1, Place: 8, F: boolean(0)}, api.ErrMany}, {append(booleans(7, 11), a), api.Step{Op: 6, Field: 1, A: 2}, api.ErrMany}, {append(booleans(6, 11), a), api.Step{Op: 6, Field: 1, A: 2}, api.OK},
		{full(boolean(1)), api.Step{Op: 1, F: boolean(0)}, api.ErrMany}, {full(boolean(1)), api.Step{Op: 1, F: whole(0, 9, 9), V: num(9)}, api.OK}, {full(boolean(1)), api.Step{Op: 1, F: text(0, 0)}, api.ErrMany}, {full(a), api.Step{Op: 3, Field: 1, F: whole(1, -100, 155)}, api.OK}, {full(a), api.Step{Op: 3, Field: 1, F: whole(1, -100, 156)}, api.ErrMany}, {full(text(1, 2)), api.Step{Op: 3, Field: 1, F: text(1, 3)}, api.ErrMany},
		{full(b), api.Step{Op: 3, Field: 2, F: pick(2, 257)}, api.ErrMany}, {full(whole(1, 0, 127)), api.Step{Op: 4, Field: 1, A: -2, B: big}, api.OK}, {full(whole(1, 0, 128)), api.Step{Op: 4, Field: 1, A: -2, B: big}, api.ErrMany}, {full(b), api.Step{Op: 5, Field: 2, A: 256, T: upTo(3)}, api.OK}, {full(b), api.Step{Op: 5, Field: 2, A: 257, T: upTo(3)}, api.ErrMany},
		{full(a), api.Step{Op: 6, Field: 1, A: 2}, api.ErrMany}, {full(a), api.Step{Op: 6, Field: 1, A: 101}, api.OK}, {full(a), api.Step{Op: 6, Field: 1, A: 100}, api.ErrMany}, {full(whole(1, 0, 65535)), api.Step{Op: 6, Field: 1, A: 256}, api.OK}, {full(whole(1, 0, 65535)), api.Step{Op: 6, Field: 1, A: 255}, api.ErrMany}, {full(whole(1, 0, 65535)), api.Step{Op: 6, Field: 1, A: 257}, api.ErrMany},
		// Of several errors, the first.
		{few, api.Step{Op: 8, Field: 4, To: 1}, api.ErrNone}, {few, api.Step{Op: 6, Field: 4, A: 2, To: 1}, api.ErrNone}, {few, api.Step{Op: 7, Field: 4, Place: 8}, api.ErrNone}, {few, api.Step{Op: 1, Place: 8, F: boolean(9)}, api.ErrTwice}, {eight, api.Step{Op: 1, Place: 8, F: boolean(8)}, api.ErrTwice}, {few, api.Step{Op: 6, Field: 2, A: 2, To: 1}, api.ErrTwice},
		{full(boolean(1)), api.Step{Op: 1, Place: 4, F: boolean(0)}, api.ErrRange}, {list(a), api.Step{Op: 2, Field: 1, V: num(101)}, api.ErrType}, {full(text(1, 2)), api.Step{Op: 3, Field: 1, F: whole(1, 0, big)}, api.ErrType}, {append(booleans(7, 11), boolean(1)), api.Step{Op: 6, Field: 1, A: 2}, api.ErrType}, {eight, api.Step{Op: 6, Field: 1, A: 2, To: 2}, api.ErrTwice},
	}
	for _, c := range tests {
		c.x.Form = 7
		got, e := On(version(2, form(7, c.fields...), form(9, c.fields...)), c.x)
		if e != c.want || e != api.OK && !equal(got, api.Schema{}) {
			t.Errorf("On(%v, %v) = %v, %d, not %d", c.fields, c.x, got, e, c.want)
		}
		for _, s := range []api.Schema{version(2, form(7, c.fields...), form(9, c.fields...)), version(2, form(6, c.fields...), form(8, c.fields...)), version(0, form(7, c.fields...))} {
			checkOn(t, s, c.x)
		}
	}
}

// steps returns a step with each Op that can be applied to a form 7 with a field 1, KInt from 0 to 9, and a field 2, KPick of 2.
func steps() []api.Step {
	return []api.Step{
		{Op: 1, Form: 7, Place: 1, F: boolean(5)}, {Op: 2, Form: 7, Field: 1}, {Op: 3, Form: 7, Field: 1, F: whole(1, 0, 10)}, {Op: 4, Form: 7, Field: 1, A: 2, B: 3}, {Op: 5, Form: 7, Field: 2, A: 3, T: []int{2, 0}},
		{Op: 6, Form: 7, Field: 1, A: 5, To: 3}, {Op: 7, Form: 7, Field: 1, Place: 1}, {Op: 8, Form: 7, Field: 1, To: 3}, {Op: 9, Form: 8, Fields: list(boolean(1), text(2, 3))}, {Op: 10, Form: 7},
	}
}

// base returns a schema for the steps.
func base() api.Schema {
	return version(4, form(5, boolean(1)), form(7, whole(1, 0, 9), pick(2, 2)), form(9, text(1, 3)))
}

// P16.1: ErrNone for a form that does not exist, ErrMany for a ninth form, and ErrTwice before it.
func TestMissing(t *testing.T) {
	for _, x := range steps() {
		if got, e := On(base(), x); e != api.OK || len(got.Forms) == 0 {
			t.Errorf("On(%v) = %v, %d", x, got, e)
		}
		for _, id := range []int{0, 6, 8, 200} {
			want := api.ErrNone
			if x.Op == 9 {
				want = api.OK
			}
			x.Form = id
			if _, e := On(base(), x); e != want {
				t.Errorf("%d for Op %d of a form %d", e, x.Op, id)
			}
			if _, e := On(version(1), x); e != want {
				t.Errorf("%d for Op %d, without any form", e, x.Op)
			}
		}
	}
	eight := version(1, forms(8)...)
	for id := range 201 {
		want := api.ErrMany
		if id < 16 && id%2 == 0 {
			want = api.ErrTwice
		}
		if got, e := On(eight, api.Step{Op: 9, Form: id, Fields: booleans(1, 0)}); e != want || !equal(got, api.Schema{}) {
			t.Errorf("%v, %d for a form %d, the ninth", got, e, id)
		}
	}
}

// P16.1: ErrArg for schemas and steps that are not valid, and for steps that undo others, before all other errors.
func TestInvalid(t *testing.T) {
	bad := []api.Schema{{}, version(0, base().Forms...), version(65536, base().Forms...), version(-1, base().Forms...), version(math.MaxInt, base().Forms...), version(math.MinInt, base().Forms...),
		version(1, form(7, boolean(1)), form(5, boolean(1))), version(1, form(7, boolean(1)), form(7, boolean(1))), version(1, form(-1, boolean(1)), form(7, boolean(1))), version(1, form(7, boolean(1)), form(201, boolean(1))), version(1, forms(9)...), version(1, forms(200)...),
		version(1, form(7)), version(1, form(7, booleans(9, 1)...)), version(1, form(7, boolean(1), boolean(1))), version(1, form(7, boolean(1)), form(8)), version(1, form(7, boolean(1), boolean(256))), version(1, form(7, whole(1, 1, 0))), version(1, form(7, text(1, 32), text(2, 32)))}
	for _, s := range bad {
		for _, x := range append(steps(), api.Step{Op: 10, Form: 7}, api.Step{Op: 10, Form: 6}, api.Step{Op: 2, Form: 7, Field: 2}, api.Step{}) {
			if got, e := On(s, x); e != api.ErrArg || !equal(got, api.Schema{}) {
				t.Errorf("On(%v, %v) = %v, %d", s, x, got, e)
			}
		}
	}
	wrong := []api.Step{{}, {Op: 11, Form: 7}, {Op: 20, Form: 7}, {Op: 31, Form: 7}, {Op: -1, Form: 7}, {Op: math.MinInt, Form: 7}, {Op: math.MaxInt, Form: 7}, {Op: 1<<32 + 10, Form: 7},
		{Op: 21, Form: 7, Field: 1}, {Op: 22, Form: 7, F: boolean(5)}, {Op: 23, Form: 7, Field: 1, F: whole(1, 0, 9)}, {Op: 24, Form: 7, Field: 1, A: 1, F: whole(1, 0, 9)}, {Op: 25, Form: 7, Field: 2, T: upTo(2)}, {Op: 26, Form: 7, Field: 1, A: 2, To: 2, F: whole(1, 0, 9)},
		{Op: 27, Form: 7, Field: 1}, {Op: 28, Form: 7, Field: 1, To: 3}, {Op: 29, Form: 7}, {Op: 30, Form: 8, Fields: booleans(1, 1)},
		{Op: 10, Form: 201}, {Op: 10, Form: -1}, {Op: 10, Form: 7, Field: 1}, {Op: 1, Form: 7, Place: 9, F: boolean(5)}, {Op: 1, Form: 7, Place: -1, F: boolean(5)}, {Op: 1, Form: 7, F: boolean(5), V: num(2)}, {Op: 1, Form: 6, F: boolean(256)}, {Op: 2, Form: 7, Field: 256}, {Op: 2, Form: 7, Field: -1}, {Op: 2, Form: 7, Field: 1, V: num(1<<40 + 1)},
		{Op: 3, Form: 7, Field: 1, F: whole(2, 0, 10)}, {Op: 3, Form: 7, Field: 1, F: whole(1, 0, 1<<40+1)}, {Op: 4, Form: 7, Field: 1}, {Op: 4, Form: 7, Field: 1, A: math.MaxInt}, {Op: 4, Form: 7, Field: 1, A: math.MinInt, B: math.MinInt}, {Op: 4, Form: 7, Field: 1, A: 1<<20 + 1}, {Op: 4, Form: 7, Field: 1, A: 1, B: 1<<40 + 1},
		{Op: 5, Form: 7, Field: 2, A: 2, T: []int{1, 1}}, {Op: 5, Form: 7, Field: 2, A: 2, T: []int{0, 2}}, {Op: 5, Form: 7, Field: 2, A: 1001, T: upTo(2)}, {Op: 5, Form: 7, Field: 2, A: 2}, {Op: 6, Form: 7, Field: 1, A: 1, To: 3}, {Op: 6, Form: 7, Field: 1, To: 3}, {Op: 6, Form: 7, Field: 1, A: 5, To: 1}, {Op: 6, Form: 7, Field: 1, A: -5, To: 3},
		{Op: 7, Form: 7, Field: 1, Place: 9}, {Op: 7, Form: 7, Field: 1, Place: -1}, {Op: 8, Form: 7, Field: 1, To: 1}, {Op: 8, Form: 7, Field: 1, To: 256}, {Op: 9, Form: 8}, {Op: 9, Form: 7}, {Op: 9, Form: 201, Fields: booleans(1, 1)}, {Op: 9, Form: 8, Fields: booleans(9, 1)}, {Op: 9, Form: 8, Fields: list(boolean(1), boolean(1))}, {Op: 9, Form: 8, Fields: list(text(1, 32), text(2, 32))}}
	for _, x := range wrong {
		for _, s := range []api.Schema{base(), version(1), version(1, forms(8)...)} {
			if got, e := On(s, x); e != api.ErrArg || !equal(got, api.Schema{}) {
				t.Errorf("On(%v, %v) = %v, %d", s, x, got, e)
			}
			checkOn(t, s, x)
		}
	}
}

// schemas returns schemas with few and with many forms and fields, short and long ones.
func schemas() []api.Schema {
	mixed := list(whole(1, 0, 100), pick(2, 3), text(3, 5), boolean(4), whole(5, -5, 1<<40))
	return []api.Schema{{}, version(1), base(), version(9, forms(8)...), version(9, forms(7)...), version(9, forms(9)...), version(65535, form(0, mixed...), form(7, mixed...), form(200, mixed...)),
		version(2, form(7, booleans(8, 1)...), form(8, booleans(7, 1)...)), version(2, form(7, whole(1, 0, 0)), form(8, text(3, 32), pick(2, 2), text(4, 29))), version(2, form(7, append(booleans(7, 2), whole(1, 0, 300))...), form(8, append(booleans(6, 2), whole(1, 0, 255))...)),
		version(2, form(7, whole(1, 0, 255), text(3, 32), text(4, 29)), form(8, pick(2, 3), text(1, 32), text(4, 29))), version(2, form(7, whole(1, -1<<40, 1<<40), pick(2, 64), text(3, 0))), version(2, form(8, boolean(1)), form(7, boolean(1)))}
}

// values returns values of all kinds.
func values() []api.Value {
	return []api.Value{num(0), num(1), num(2), num(3), num(-5), num(100), num(101), num(1 << 40), str("abc"), str("abcdef"), str(strings.Repeat("a", 33))}
}

// types returns fields of all kinds with an ID.
func types(id int) []api.Field {
	return list(whole(id, 0, 0), whole(id, 0, 9), whole(id, 0, 255), whole(id, -1, 300), whole(id, -1<<40, 1<<40), whole(id, 1, 0), boolean(id), pick(id, 2), pick(id, 3), pick(id, 300), text(id, 0), text(id, 5), text(id, 30), text(id, 32))
}

// all returns steps with every Op and every combination of a few values of each member that it uses, some of them not valid.
func all() []api.Step {
	l := []api.Step{}
	for _, id := range []int{0, 1, 7, 8, 200, 201} {
		l = append(l, api.Step{Op: 10, Form: id}, api.Step{Op: 29, Form: id}, api.Step{Op: 9, Form: id})
		for _, x := range types(1) {
			l = append(l, api.Step{Op: 9, Form: id, Fields: list(x)}, api.Step{Op: 9, Form: id, Fields: list(boolean(1), x)}, api.Step{Op: 30, Form: id, Fields: list(x)})
			for _, v := range values() {
				for place := range 10 {
					for _, at := range []int{1, 3, 9} {
						x.ID = at
						l = append(l, api.Step{Op: 1, Form: id, Place: place, F: x, V: v})
					}
				}
			}
		}
		for _, at := range []int{1, 2, 3, 9, 256} {
			l = append(l, api.Step{Op: 21, Form: id, Field: at})
			for n := range 10 {
				l = append(l, api.Step{Op: 7, Form: id, Field: at, Place: n}, api.Step{Op: 8, Form: id, Field: at, To: n}, api.Step{Op: 27, Form: id, Field: at, Place: n})
				for _, a := range []int{1, 2, 10, 101, 256, 1 << 20} {
					l = append(l, api.Step{Op: 6, Form: id, Field: at, A: a, To: n})
				}
			}
			for _, v := range values() {
				l = append(l, api.Step{Op: 2, Form: id, Field: at, V: v})
			}
			for _, x := range append(types(at), boolean(7)) {
				l = append(l, api.Step{Op: 3, Form: id, Field: at, F: x})
			}
			for _, a := range []int{-1 << 20, -1, 0, 1, 2, 3, 1 << 20} {
				for _, b := range []int{-1 << 40, -1, 0, 1, 155, 156, 1<<40 - 100, 1 << 40} {
					l = append(l, api.Step{Op: 4, Form: id, Field: at, A: a, B: b})
				}
			}
			for _, a := range []int{2, 3, 64, 256, 257, 1000} {
				for _, n := range []int{1, 2, 3, 64} {
					l = append(l, api.Step{Op: 5, Form: id, Field: at, A: a, T: upTo(n)})
				}
			}
		}
	}
	return l
}

// P16.1, P16.3: every step on every schema, against the chapter; each error that a step can have occurs.
func TestOn(t *testing.T) {
	seen := map[string]int{}
	for _, s := range schemas() {
		for _, x := range all() {
			seen[fmt.Sprint(x.Op, " ", int(checkOn(t, s, x)))]++
		}
	}
	can := map[int][]api.Errno{
		1: {api.ErrNone, api.ErrTwice, api.ErrRange, api.ErrMany}, 2: {api.ErrNone, api.ErrType, api.ErrMany}, 3: {api.ErrNone, api.ErrType, api.ErrMany}, 4: {api.ErrNone, api.ErrType, api.ErrMany}, 5: {api.ErrNone, api.ErrType, api.ErrMany},
		6: {api.ErrNone, api.ErrTwice, api.ErrType, api.ErrMany}, 7: {api.ErrNone, api.ErrRange}, 8: {api.ErrNone, api.ErrTwice}, 9: {api.ErrTwice, api.ErrMany}, 10: {api.ErrNone},
	}
	for op, l := range can {
		for _, e := range append(l, api.OK, api.ErrArg) {
			if seen[fmt.Sprint(op, " ", int(e))] == 0 {
				t.Errorf("no error %d of Op %d", e, op)
			}
		}
	}
}

// P16.2: each step is applied to the result of the previous ones.
func TestAll(t *testing.T) {
	s := version(3, form(4, whole(1, 0, 100), pick(2, 2)))
	l := []api.Step{{Op: 6, Form: 4, Field: 1, A: 10, To: 3}, {Op: 4, Form: 4, Field: 3, A: 2, B: 1}, {Op: 8, Form: 4, Field: 1, To: 7}, {Op: 1, Form: 4, Place: 3, F: boolean(1)}, {Op: 9, Form: 2, Fields: booleans(2, 1)}, {Op: 2, Form: 2, Field: 1}, {Op: 7, Form: 4, Field: 2}, {Op: 10, Form: 2}}
	grown, moved := form(4, whole(7, 0, 10), whole(3, 1, 19), pick(2, 2), boolean(1)), form(4, pick(2, 2), whole(7, 0, 10), whole(3, 1, 19), boolean(1))
	results := []api.Schema{
		s,
		version(3, form(4, whole(1, 0, 10), whole(3, 0, 9), pick(2, 2))),
		version(3, form(4, whole(1, 0, 10), whole(3, 1, 19), pick(2, 2))),
		version(3, form(4, whole(7, 0, 10), whole(3, 1, 19), pick(2, 2))),
		version(3, grown),
		version(3, form(2, boolean(1), boolean(2)), grown),
		version(3, form(2, boolean(2)), grown),
		version(3, form(2, boolean(2)), moved),
		version(3, moved),
	}
	for n, want := range results {
		if got, i, e := All(s, l[:n]); e != api.OK || i != 0 || !equal(got, want) {
			t.Errorf("%d steps: %v, %d, %d, not %v", n, got, i, e, want)
		}
	}
	// The steps behind the first one that fails, and what they are, make no difference.
	for n := range len(l) + 1 {
		for _, bad := range []struct {
			x    api.Step
			want api.Errno
		}{{api.Step{}, api.ErrArg}, {api.Step{Op: 29, Form: 4}, api.ErrArg}, {api.Step{Op: 10, Form: 3}, api.ErrNone}, {api.Step{Op: 9, Form: 4, Fields: booleans(1, 1)}, api.ErrTwice}, {api.Step{Op: 7, Form: 4, Field: 2, Place: 8}, api.ErrRange}, {api.Step{Op: 2, Form: 4, Field: 2, V: num(2)}, api.ErrType}} {
			for _, rest := range [][]api.Step{nil, l, {{Op: 10, Form: 9}, {}}} {
				steps := append(append(slices.Clone(l[:n]), bad.x), rest...)
				if got, i, e := All(s, steps); e != bad.want || i != n || !equal(got, api.Schema{}) {
					t.Errorf("%v: %v, %d, %d, not %d, %d", steps, got, i, e, n, bad.want)
				}
			}
		}
	}
	if got, i, e := All(s, []api.Step{{Op: 2, Form: 4, Field: 1}, {Op: 2, Form: 4, Field: 2}}); e != api.ErrMany || i != 1 || !equal(got, api.Schema{}) {
		t.Errorf("no field is left: %v, %d, %d", got, i, e)
	}
}

// P16.2: without any step the result is the schema, and with one it must be valid.
func TestAllOfNone(t *testing.T) {
	for _, s := range schemas() {
		for _, l := range [][]api.Step{nil, {}} {
			if got, i, e := All(s, l); e != api.OK || i != 0 || !equal(got, s) {
				t.Errorf("All(%v, none) = %v, %d, %d", s, got, i, e)
			}
		}
		got, i, e := All(s, []api.Step{{Op: 9, Form: 199, Fields: booleans(1, 1)}})
		if schema.Right(s) == (e == api.ErrArg) || i != 0 || e != api.OK && !equal(got, api.Schema{}) {
			t.Errorf("All(%v) = %v, %d, %d", s, got, i, e)
		}
	}
}

// P16.2: lists of more steps than a link may have, and forms that come to their limits on the way.
func TestLong(t *testing.T) {
	l := []api.Step{}
	for i := range 1000 {
		l = append(l, api.Step{Op: 8, Form: 7, Field: i % 200, To: (i + 1) % 200})
	}
	s := version(5, form(7, text(0, 3)))
	for _, n := range []int{40, 41, 200, 201, 999, 1000} {
		if got, i, e := All(s, l[:n]); e != api.OK || i != 0 || !equal(got, version(5, form(7, text(n%200, 3)))) {
			t.Errorf("%d steps: %v, %d, %d", n, got, i, e)
		}
	}
	if got, i, e := All(s, append(l, l[1])); e != api.ErrNone || i != 1000 || !equal(got, api.Schema{}) {
		t.Errorf("step 1000: %v, %d, %d", got, i, e)
	}
	grow := []api.Step{}
	for i := range 9 {
		grow = append(grow, api.Step{Op: 1, Form: 7, Place: i % 2, F: boolean(10 + i)})
	}
	if got, i, e := All(s, grow); e != api.ErrMany || i != 7 || !equal(got, api.Schema{}) {
		t.Errorf("the ninth field: %v, %d, %d", got, i, e)
	}
}

// P16.2, P16.3: random lists, against the chapter step by step.
func TestRandom(t *testing.T) {
	r := rand.New(rand.NewSource(162))
	steps := all()
	right := []api.Step{}
	for _, x := range steps {
		if x.Op <= 10 && step.Right(x) {
			right = append(right, x)
		}
	}
	good := 0
	for _, s := range schemas() {
		for range 3000 {
			now, l, bad, first := s, []api.Step{}, api.OK, 0
			for range r.Intn(12) {
				x := right[r.Intn(len(right))]
				for try := 0; try < 50; try++ { // mostly steps that can be applied
					if _, e := expected(now, x); e == api.OK {
						break
					}
					x = right[r.Intn(len(right))]
				}
				if r.Intn(30) == 0 {
					x = steps[r.Intn(len(steps))]
				}
				if bad == api.OK {
					first = len(l)
					now, bad = expected(now, x)
				}
				l = append(l, x)
			}
			if bad == api.OK {
				first = 0
				good += len(l)
			}
			got, i, e := All(s, l)
			if e != bad || i != first || !equal(got, now) {
				t.Fatalf("All(%v, %v) = %v, %d, %d, not %v, %d, %d", s, l, got, i, e, now, first, bad)
			}
		}
	}
	if good < 20000 {
		t.Errorf("only %d steps of lists that can be applied", good)
	}
}

// roomy returns base with spare capacity behind all lists, and a function that reports whether it has not been modified.
func roomy() (api.Schema, func() bool) {
	s := base()
	s.Forms = append(make([]api.Form, 0, 8), s.Forms...)
	for i, f := range s.Forms {
		s.Forms[i].Fields = append(make([]api.Field, 0, 8), f.Fields...)
	}
	return s, func() bool {
		for _, f := range s.Forms {
			for _, x := range f.Fields[len(f.Fields):8] {
				if x != (api.Field{}) {
					return false
				}
			}
		}
		return equal(s, base()) && equal(version(4, s.Forms[3:8]...), version(4, make([]api.Form, 5)...))
	}
}

// R3: neither arguments nor their spare capacity are modified.
func TestArguments(t *testing.T) {
	s, same := roomy()
	l := append(make([]api.Step, 0, 12), steps()...)
	l[4].T = append(make([]int, 0, 8), l[4].T...)
	l[8].Fields = append(make([]api.Field, 0, 8), l[8].Fields...)
	for i, x := range l {
		On(s, x)
		All(s, l[i:i+1])
		All(s, l[i:])
	}
	All(s, l)
	All(s, nil)
	if !same() {
		t.Error("the schema was modified")
	}
	if !slices.EqualFunc(l, steps(), step.Same) || !step.Same(l[:11][10], api.Step{}) || !slices.Equal(l[4].T[2:8], make([]int, 6)) || !slices.Equal(l[8].Fields[2:8], make([]api.Field, 6)) {
		t.Error("the steps were modified")
	}
}

// spoil overwrites all of a schema, and the spare capacity of its lists.
func spoil(s api.Schema) {
	for i, f := range s.Forms {
		clear(f.Fields[:cap(f.Fields)])
		s.Forms[i].ID = -9
	}
	clear(s.Forms[:cap(s.Forms)])
}

// R3: results share no memory with arguments or with other results, nor two lists of one result.
func TestMemory(t *testing.T) {
	calls := []func(api.Schema, api.Step) api.Schema{
		func(s api.Schema, x api.Step) api.Schema { r, _ := On(s, x); return r },
		func(s api.Schema, x api.Step) api.Schema { r, _, _ := All(s, []api.Step{x}); return r },
		func(s api.Schema, x api.Step) api.Schema { r, _, _ := All(s, nil); return r },
	}
	for i, call := range calls {
		for _, x := range steps() {
			s, same := roomy()
			first, second := call(s, x), call(s, x)
			want := clone(second)
			spoil(first)
			if !same() || !step.Same(x, steps()[x.Op-1]) || !equal(second, want) {
				t.Errorf("a result of call %d shares memory, for %v", i, x)
			}
			spoil(s)
			x.Fields = append(x.Fields, boolean(1))
			clear(x.Fields)
			if !equal(second, want) {
				t.Errorf("a result of call %d shares memory with its arguments, for %v", i, x)
			}
		}
		for _, x := range steps() {
			s, _ := roomy()
			got := call(s, x)
			want := clone(got)
			for k := range got.Forms {
				f := got.Forms[k].Fields
				clear(f[:cap(f)])
				got.Forms[k].Fields, want.Forms[k].Fields = nil, nil
				if !equal(got, want) {
					t.Errorf("the fields of form %d of a result of call %d share memory, for %v", k, i, x)
				}
			}
		}
	}
	x := steps()[8]
	got, _ := On(base(), x)
	want := clone(got)
	clear(x.Fields)
	if !equal(got, want) {
		t.Error("the fields of OpForm are kept")
	}
}

// R3: what is behind the end of a slice does not belong to it.
func TestEnds(t *testing.T) {
	fields := list(whole(1, 0, 9), pick(2, 2), boolean(3), boolean(3))
	l := []api.Form{form(7, fields[:2]...), form(8, boolean(1)), form(8, boolean(1))}
	s := version(1, l[:2]...)
	if got, e := On(s, api.Step{Op: 1, Form: 7, Place: 2, F: boolean(3)}); e != api.OK || !equal(got, version(1, form(7, fields[:3]...), l[1])) {
		t.Errorf("%v, %d", got, e)
	}
	if _, e := On(s, api.Step{Op: 2, Form: 7, Field: 3}); e != api.ErrNone {
		t.Errorf("a field behind the end: %d", e)
	}
	if got, e := On(s, api.Step{Op: 9, Form: 9, Fields: fields[:3]}); e != api.OK || !equal(got, version(1, l[0], l[1], form(9, fields[:3]...))) {
		t.Errorf("%v, %d", got, e)
	}
	steps := []api.Step{{Op: 10, Form: 7}, {Op: 10, Form: 7}}
	if got, i, e := All(s, steps[:1]); e != api.OK || i != 0 || !equal(got, version(1, l[1])) {
		t.Errorf("%v, %d, %d", got, i, e)
	}
}
