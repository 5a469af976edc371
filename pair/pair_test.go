package pair

import (
	"fmt"
	"math"
	"math/rand"
	"slices"
	"strings"
	"testing"

	"instar/api"
	"instar/step"
	"instar/typing"
)

const big = 1 << 40

func whole(id, lo, hi int) api.Field { return api.Field{ID: id, Kind: 1, Lo: lo, Hi: hi} }

func boolean(id int) api.Field { return api.Field{ID: id, Kind: 2} }

func pick(id, most int) api.Field { return api.Field{ID: id, Kind: 3, Most: most} }

func text(id, most int) api.Field { return api.Field{ID: id, Kind: 4, Most: most} }

func num(n int) api.Value { return api.Value{N: n} }

func str(s string) api.Value { return api.Value{S: s} }

func list(l ...api.Field) []api.Field { return l }

func form(id int, l ...api.Field) api.Form { return api.Form{ID: id, Fields: l} }

func version(n int, l ...api.Form) api.Schema { return api.Schema{Version: n, Forms: l} }

func steps(l ...api.Step) []api.Step { return l }

// upTo returns the numbers from 0 to n - 1.
func upTo(n int) []int {
	l := []int{}
	for i := range n {
		l = append(l, i)
	}
	return l
}

// booleans returns n KBool fields with IDs from 1 on.
func booleans(n int) []api.Field {
	l := []api.Field{}
	for i := range n {
		l = append(l, boolean(1+i))
	}
	return l
}

// told returns all members of a step as text.
func told(x api.Step) string { return fmt.Sprintf("%#v %q %v %v", numbers(x), x.V.S, x.T, x.Fields) }

// numbers returns the members of a step that are numbers.
func numbers(x api.Step) []int {
	return []int{x.Op, x.Form, x.Field, x.Place, x.To, x.A, x.B, x.F.ID, x.F.Kind, x.F.Lo, x.F.Hi, x.F.Most, x.V.N}
}

// toldAll returns all members of all steps as text.
func toldAll(l []api.Step) string {
	s := ""
	for _, x := range l {
		s += told(x) + "\n"
	}
	return s
}

// clone returns a copy of a step that shares no list with it.
func clone(x api.Step) api.Step {
	x.T, x.Fields = slices.Clone(x.T), slices.Clone(x.Fields)
	return x
}

func cloneAll(l []api.Step) []api.Step {
	c := []api.Step{}
	for _, x := range l {
		c = append(c, clone(x))
	}
	return c
}

// expected returns what Invert must return.
func expected(s api.Schema, x api.Step) (api.Step, api.Errno) {
	if _, e := typing.On(s, x); e != api.OK {
		return api.Step{}, e
	}
	var fields []api.Field
	var old api.Field
	place, id := 0, x.Form
	for _, f := range s.Forms {
		for i, y := range f.Fields {
			if f.ID == id && y.ID == x.Field {
				place, old = i, y
			}
		}
		if f.ID == id {
			fields = f.Fields
		}
	}
	return map[int]api.Step{
		1:  {Op: 21, Form: id, Field: x.F.ID},
		2:  {Op: 22, Form: id, Place: place, F: old, V: x.V},
		3:  {Op: 23, Form: id, Field: x.Field, F: old},
		4:  {Op: 24, Form: id, Field: x.Field, A: x.A, B: x.B, F: old},
		5:  {Op: 25, Form: id, Field: x.Field, T: x.T},
		6:  {Op: 26, Form: id, Field: x.Field, A: x.A, To: x.To, F: old},
		7:  {Op: 27, Form: id, Field: x.Field, Place: place},
		8:  {Op: 28, Form: id, Field: x.To, To: x.Field},
		9:  {Op: 29, Form: id},
		10: {Op: 30, Form: id, Fields: fields},
	}[x.Op], api.OK
}

// undone returns the schema that a step made into s, going by its inverse alone.
func undone(s api.Schema, x api.Step) api.Schema {
	out := api.Schema{Version: s.Version}
	if x.Op == 30 {
		out.Forms = append(out.Forms, form(x.Form, x.Fields...))
	}
	for _, f := range s.Forms {
		if f.ID != x.Form {
			out.Forms = append(out.Forms, f)
		} else if x.Op != 29 {
			out.Forms = append(out.Forms, form(f.ID, undoneFields(f.Fields, x)...))
		}
	}
	slices.SortFunc(out.Forms, func(a, b api.Form) int { return a.ID - b.ID })
	return out
}

// undoneFields returns the fields of a form that a step made into l.
func undoneFields(l []api.Field, x api.Step) []api.Field {
	out, at := []api.Field{}, slices.IndexFunc(l, func(f api.Field) bool { return f.ID == x.Field })
	for i, f := range l {
		switch {
		case x.Op == 22 || i != at && !(x.Op == 26 && f.ID == x.To):
			out = append(out, f)
		case x.Op == 28:
			out = append(out, api.Field{ID: x.To, Kind: f.Kind, Lo: f.Lo, Hi: f.Hi, Most: f.Most})
		case x.Op == 25:
			out = append(out, pick(f.ID, len(x.T)))
		case i == at && (x.Op == 23 || x.Op == 24 || x.Op == 26):
			out = append(out, x.F)
		}
	}
	switch x.Op {
	case 22:
		return slices.Insert(out, x.Place, x.F)
	case 27:
		return slices.Insert(out, x.Place, l[at])
	}
	return out
}

// checkInvert compares Invert with what the chapter requires, and P17.3 with what it returned.
func checkInvert(t *testing.T, s api.Schema, x api.Step) api.Errno {
	t.Helper()
	got, e := Invert(s, x)
	want, bad := expected(s, x)
	if e != bad || told(got) != told(want) {
		t.Fatalf("Invert(%v, %v) = %v, %d, not %v, %d", s, x, got, e, want, bad)
	}
	if e != api.OK {
		return e
	}
	if !step.Right(got) || got.Op != x.Op+20 {
		t.Fatalf("Invert(%v, %v) = %v: not valid, or of another Op", s, x, got)
	}
	if after, _ := typing.On(s, x); fmt.Sprint(undone(after, got)) != fmt.Sprint(s) {
		t.Fatalf("Invert(%v, %v) = %v: it leads from %v to %v", s, x, got, after, undone(after, got))
	}
	return e
}

// P17.1: the inverse of each step, of a form between two others that have fields with the same IDs.
func TestInvert(t *testing.T) {
	a, b, c, d, z := whole(1, 0, 100), pick(2, 3), text(3, 5), boolean(9), whole(6, -5, 7)
	fields := list(a, b, c, d, z)
	other := list(boolean(6), pick(9, 7), whole(3, 2, 4), text(2, 9), pick(1, 8))
	tests := []struct{ x, want api.Step }{
		{api.Step{Op: 1, F: text(8, 2), V: str("ab")}, api.Step{Op: 21, Field: 8}},
		{api.Step{Op: 1, Place: 5, F: whole(0, 5, 9), V: num(5)}, api.Step{Op: 21}},
		{api.Step{Op: 1, Place: 2, F: boolean(255), V: num(1)}, api.Step{Op: 21, Field: 255}},
		{api.Step{Op: 2, Field: 1, V: num(100)}, api.Step{Op: 22, F: a, V: num(100)}},
		{api.Step{Op: 2, Field: 2}, api.Step{Op: 22, Place: 1, F: b}},
		{api.Step{Op: 2, Field: 3, V: str("a\x00c")}, api.Step{Op: 22, Place: 2, F: c, V: str("a\x00c")}},
		{api.Step{Op: 2, Field: 9, V: num(1)}, api.Step{Op: 22, Place: 3, F: d, V: num(1)}},
		{api.Step{Op: 2, Field: 6, V: num(-5)}, api.Step{Op: 22, Place: 4, F: z, V: num(-5)}},
		{api.Step{Op: 3, Field: 1, F: whole(1, -1, 101)}, api.Step{Op: 23, Field: 1, F: a}},
		{api.Step{Op: 3, Field: 2, F: pick(2, 1000)}, api.Step{Op: 23, Field: 2, F: b}},
		{api.Step{Op: 3, Field: 3, F: text(3, 32)}, api.Step{Op: 23, Field: 3, F: c}},
		{api.Step{Op: 3, Field: 9, F: d}, api.Step{Op: 23, Field: 9, F: d}},
		{api.Step{Op: 4, Field: 1, A: -2, B: 1}, api.Step{Op: 24, Field: 1, A: -2, B: 1, F: a}},
		{api.Step{Op: 4, Field: 6, A: 3}, api.Step{Op: 24, Field: 6, A: 3, F: z}},
		{api.Step{Op: 5, Field: 2, A: 9, T: []int{8, 0, 3}}, api.Step{Op: 25, Field: 2, T: []int{8, 0, 3}}},
		{api.Step{Op: 6, Field: 1, A: 7, To: 4}, api.Step{Op: 26, Field: 1, A: 7, To: 4, F: a}},
		{api.Step{Op: 6, Field: 1, A: 1 << 20, To: 0}, api.Step{Op: 26, Field: 1, A: 1 << 20, F: a}},
		{api.Step{Op: 7, Field: 1, Place: 4}, api.Step{Op: 27, Field: 1}},
		{api.Step{Op: 7, Field: 2, Place: 4}, api.Step{Op: 27, Field: 2, Place: 1}},
		{api.Step{Op: 7, Field: 6}, api.Step{Op: 27, Field: 6, Place: 4}},
		{api.Step{Op: 7, Field: 3, Place: 2}, api.Step{Op: 27, Field: 3, Place: 2}},
		{api.Step{Op: 8, Field: 3, To: 8}, api.Step{Op: 28, Field: 8, To: 3}},
		{api.Step{Op: 8, Field: 9, To: 0}, api.Step{Op: 28, To: 9}},
		{api.Step{Op: 10}, api.Step{Op: 30, Fields: fields}},
	}
	for _, c := range tests {
		for _, id := range []int{0, 7, 200} {
			s := version(3)
			for k := range 201 {
				switch {
				case k == id:
					s.Forms = append(s.Forms, form(k, fields...))
				case k%99 == 1:
					s.Forms = append(s.Forms, form(k, other...))
				}
			}
			c.x.Form, c.want.Form = id, id
			if got, e := Invert(s, c.x); e != api.OK || told(got) != told(c.want) {
				t.Errorf("Invert(%v, %v) = %v, %d, not %v", s, c.x, got, e, c.want)
			}
			checkInvert(t, s, c.x)
		}
	}
}

// P17.1: OpForm, and OpEnd of the only form; both ends of each range that a step has.
func TestBounds(t *testing.T) {
	most := list(whole(0, -big, big), whole(255, big, big), pick(3, 1000), pick(4, 64), text(5, 32), text(6, 0), boolean(7))
	s := version(65535, form(200, most...))
	tests := []struct {
		s       api.Schema
		x, want api.Step
	}{
		{version(1), api.Step{Op: 9, Fields: most}, api.Step{Op: 29}},
		{version(1), api.Step{Op: 9, Form: 200, Fields: booleans(8)}, api.Step{Op: 29, Form: 200}},
		{s, api.Step{Op: 9, Form: 199, Fields: booleans(1)}, api.Step{Op: 29, Form: 199}},
		{s, api.Step{Op: 10, Form: 200}, api.Step{Op: 30, Form: 200, Fields: most}},
		{version(1, form(0, booleans(8)...)), api.Step{Op: 10}, api.Step{Op: 30, Fields: booleans(8)}},
		{version(1, form(0, booleans(8)...)), api.Step{Op: 2, Field: 8}, api.Step{Op: 22, Place: 7, F: boolean(8)}},
		{version(1, form(0, booleans(8)...)), api.Step{Op: 7, Field: 8}, api.Step{Op: 27, Field: 8, Place: 7}},
		{version(1, form(0, booleans(7)...)), api.Step{Op: 1, Place: 7, F: boolean(8)}, api.Step{Op: 21, Field: 8}},
		{s, api.Step{Op: 2, Form: 200, Field: 0, V: num(-big)}, api.Step{Op: 22, Form: 200, F: whole(0, -big, big), V: num(-big)}},
		{s, api.Step{Op: 2, Form: 200, Field: 5, V: str(strings.Repeat("\xff", 32))}, api.Step{Op: 22, Form: 200, Place: 4, F: text(5, 32), V: str(strings.Repeat("\xff", 32))}},
		{s, api.Step{Op: 2, Form: 200, Field: 3, V: num(999)}, api.Step{Op: 22, Form: 200, Place: 2, F: pick(3, 1000), V: num(999)}},
		{s, api.Step{Op: 4, Form: 200, A: -1}, api.Step{Op: 24, Form: 200, A: -1, F: whole(0, -big, big)}},
		{s, api.Step{Op: 4, Form: 200, Field: 255, A: 2, B: -big}, api.Step{Op: 24, Form: 200, Field: 255, A: 2, B: -big, F: whole(255, big, big)}},
		{version(1, form(9, whole(1, -1<<20, 1<<20))), api.Step{Op: 4, Form: 9, Field: 1, A: -1 << 20}, api.Step{Op: 24, Form: 9, Field: 1, A: -1 << 20, F: whole(1, -1<<20, 1<<20)}},
		{version(1, form(9, whole(1, -1<<21, 0))), api.Step{Op: 4, Form: 9, Field: 1, A: 1 << 20, B: big}, api.Step{Op: 24, Form: 9, Field: 1, A: 1 << 20, B: big, F: whole(1, -1<<21, 0)}},
		{s, api.Step{Op: 5, Form: 200, Field: 4, A: 1000, T: append(upTo(63), 999)}, api.Step{Op: 25, Form: 200, Field: 4, T: append(upTo(63), 999)}},
		{version(1, form(9, pick(0, 1))), api.Step{Op: 5, Form: 9, A: 1, T: upTo(1)}, api.Step{Op: 25, Form: 9, T: upTo(1)}},
		{version(1, form(9, whole(255, 0, big))), api.Step{Op: 6, Form: 9, Field: 255, A: 1 << 20}, api.Step{Op: 26, Form: 9, Field: 255, A: 1 << 20, F: whole(255, 0, big)}},
		{version(1, form(9, whole(0, 0, 0))), api.Step{Op: 6, Form: 9, A: 2, To: 255}, api.Step{Op: 26, Form: 9, A: 2, To: 255, F: whole(0, 0, 0)}},
		{s, api.Step{Op: 8, Form: 200, Field: 255, To: 254}, api.Step{Op: 28, Form: 200, Field: 254, To: 255}},
	}
	for _, c := range tests {
		if got, e := Invert(c.s, c.x); e != api.OK || told(got) != told(c.want) {
			t.Errorf("Invert(%v, %v) = %v, %d, not %v", c.s, c.x, got, e, c.want)
		}
		checkInvert(t, c.s, c.x)
	}
}

// P17.1, R1: the errors of typing.On.
func TestInvertErrors(t *testing.T) {
	s := version(2, form(7, whole(1, 0, 9), pick(2, 2)), form(8, booleans(8)...))
	tests := []struct {
		s    api.Schema
		x    api.Step
		want api.Errno
	}{
		{version(0), api.Step{Op: 9, Form: 1, Fields: booleans(1)}, api.ErrArg}, {api.Schema{}, api.Step{}, api.ErrArg}, {s, api.Step{}, api.ErrArg}, {s, api.Step{Op: 11, Form: 7}, api.ErrArg},
		{s, api.Step{Op: 29, Form: 7}, api.ErrArg}, {s, api.Step{Op: 28, Form: 7, Field: 1, To: 3}, api.ErrArg}, {s, api.Step{Op: 8, Form: 7, Field: 1, To: 1}, api.ErrArg}, {s, api.Step{Op: 10, Form: 7, A: 1}, api.ErrArg},
		{version(2, form(8, boolean(1)), form(7, boolean(1))), api.Step{Op: 10, Form: 7}, api.ErrArg}, {version(2, form(7, boolean(1), boolean(1))), api.Step{Op: 2, Form: 7, Field: 1}, api.ErrArg}, {version(2, form(7)), api.Step{Op: 10, Form: 7}, api.ErrArg},
		{s, api.Step{Op: 10, Form: 6}, api.ErrNone}, {s, api.Step{Op: 2, Form: 7, Field: 3}, api.ErrNone}, {s, api.Step{Op: 7, Form: 9}, api.ErrNone}, {version(1), api.Step{Op: 8, Field: 1, To: 2}, api.ErrNone},
		{s, api.Step{Op: 9, Form: 7, Fields: booleans(1)}, api.ErrTwice}, {s, api.Step{Op: 1, Form: 7, F: boolean(2)}, api.ErrTwice}, {s, api.Step{Op: 8, Form: 7, Field: 1, To: 2}, api.ErrTwice}, {s, api.Step{Op: 6, Form: 7, Field: 1, A: 3, To: 2}, api.ErrTwice},
		{s, api.Step{Op: 1, Form: 7, Place: 3, F: boolean(3)}, api.ErrRange}, {s, api.Step{Op: 7, Form: 7, Field: 1, Place: 2}, api.ErrRange},
		{s, api.Step{Op: 2, Form: 7, Field: 1, V: num(10)}, api.ErrType}, {s, api.Step{Op: 3, Form: 7, Field: 1, F: whole(1, 0, 8)}, api.ErrType}, {s, api.Step{Op: 4, Form: 7, Field: 1, A: 1, B: big}, api.ErrType}, {s, api.Step{Op: 5, Form: 7, Field: 2, A: 3, T: upTo(3)}, api.ErrType}, {s, api.Step{Op: 6, Form: 7, Field: 2, A: 2, To: 5}, api.ErrType},
		{s, api.Step{Op: 1, Form: 8, F: boolean(9)}, api.ErrMany}, {version(2, form(7, boolean(1))), api.Step{Op: 2, Form: 7, Field: 1}, api.ErrMany},
	}
	for _, c := range tests {
		if got, e := Invert(c.s, c.x); e != c.want || told(got) != told(api.Step{}) {
			t.Errorf("Invert(%v, %v) = %v, %d, not %d", c.s, c.x, got, e, c.want)
		}
	}
	for _, n := range []int{math.MinInt, math.MinInt + 1, -1, 0, 1, 10, 21, 1 << 32, math.MaxInt} {
		x := whole(n, n, n)
		x.Kind, x.Most = n, n
		for op := -1; op < 33; op++ {
			odd := api.Step{Op: op, Form: n, Field: n, Place: n, To: n, A: n, B: n, F: x, V: num(n), T: []int{n, n}, Fields: list(x, x)}
			checkInvert(t, s, odd)
			checkInvert(t, version(n, form(n, x, x)), odd)
			checkInvert(t, s, api.Step{Op: op, Form: n, Field: n, To: n})
		}
	}
}

// schemas returns schemas with few and with many forms and fields, valid ones but for the first and the last.
func schemas() []api.Schema {
	mixed := list(whole(1, 0, 100), pick(2, 3), text(3, 5), boolean(4), whole(5, -5, big))
	eight := []api.Form{}
	for i := range 8 {
		eight = append(eight, form(i+1, whole(2, 0, 9), boolean(i+8)))
	}
	return []api.Schema{{}, version(1), version(9, eight...), version(9, eight[1:]...), version(65535, form(0, mixed...), form(7, mixed...), form(200, mixed...)),
		version(2, form(7, booleans(8)...), form(8, booleans(7)...)), version(2, form(7, pick(3, 2), whole(1, 0, 0)), form(8, text(3, 32), pick(2, 2), text(4, 29)), form(200, boolean(1))), version(2, form(8, boolean(1)), form(7, boolean(1)))}
}

// all returns steps with every Op and every combination of a few values of each member that it uses, some of them not valid.
func all() []api.Step {
	l := []api.Step{}
	for _, id := range []int{0, 1, 7, 8, 200, 201} {
		l = append(l, steps(api.Step{Op: 10, Form: id}, api.Step{Op: 30, Form: id, Fields: booleans(2)}, api.Step{Op: 9, Form: id}, api.Step{Op: 9, Form: id, Fields: list(text(3, 4), pick(2, 3), whole(1, -3, 9))}, api.Step{Op: 9, Form: id, Fields: booleans(8)})...)
		for _, at := range []int{1, 2, 3, 5, 9, 256} {
			types := list(whole(at, 0, 9), whole(at, -9, 300), whole(at, 0, big), boolean(at), pick(at, 2), pick(at, 300), text(at, 2), text(at, 32))
			values := []api.Value{num(0), num(1), num(9), str("ab"), str("abc")}
			for n := range 10 {
				l = append(l, api.Step{Op: 7, Form: id, Field: at, Place: n}, api.Step{Op: 8, Form: id, Field: at, To: n}, api.Step{Op: 6, Form: id, Field: at, A: 1 << (2 * n), To: 8}, api.Step{Op: 27, Form: id, Field: at, Place: n})
				for k, x := range types {
					l = append(l, api.Step{Op: 1, Form: id, Place: n, F: x, V: values[(k+n)%5]})
				}
			}
			for _, v := range values {
				l = append(l, api.Step{Op: 2, Form: id, Field: at, V: v})
			}
			for _, x := range types {
				l = append(l, api.Step{Op: 3, Form: id, Field: at, F: x})
			}
			for _, a := range []int{-3, -1, 0, 1, 2, 1 << 20} {
				l = append(l, api.Step{Op: 4, Form: id, Field: at, A: a, B: a - 1}, api.Step{Op: 4, Form: id, Field: at, A: a, B: -big})
				l = append(l, api.Step{Op: 5, Form: id, Field: at, A: 4, T: []int{3, 0, 2, 1}[:max(a, 0)%5]}, api.Step{Op: 5, Form: id, Field: at, A: 3, T: []int{2, 0, 1}})
			}
		}
	}
	return l
}

// P17.1, P17.3: every step on every schema; each Op with and without an error.
func TestEveryStep(t *testing.T) {
	seen := map[[2]int]int{}
	for _, s := range schemas() {
		for _, x := range all() {
			seen[[2]int{x.Op, int(checkInvert(t, s, x))}]++
		}
	}
	can := map[int][]api.Errno{1: {api.ErrNone, api.ErrTwice, api.ErrRange, api.ErrMany}, 2: {api.ErrNone, api.ErrType, api.ErrMany}, 3: {api.ErrNone, api.ErrType, api.ErrMany}, 4: {api.ErrNone, api.ErrType}, 5: {api.ErrNone, api.ErrType},
		6: {api.ErrNone, api.ErrTwice, api.ErrType}, 7: {api.ErrNone, api.ErrRange}, 8: {api.ErrNone, api.ErrTwice}, 9: {api.ErrTwice, api.ErrMany}, 10: {api.ErrNone}}
	for op, l := range can {
		for _, e := range append(l, api.OK, api.ErrArg) {
			if seen[[2]int{op, int(e)}] == 0 {
				t.Errorf("no error %d of Op %d", e, op)
			}
		}
	}
}

// base returns a schema for chain.
func base() api.Schema { return version(3, form(4, whole(1, 0, 100), pick(2, 2)), form(9, boolean(1))) }

// chain returns a list with every Op in which most steps depend on those before them, and its inverse.
func chain() (on, back []api.Step) {
	on = steps(
		api.Step{Op: 6, Form: 4, Field: 1, A: 10, To: 3}, api.Step{Op: 4, Form: 4, Field: 3, A: -2, B: 1}, api.Step{Op: 3, Form: 4, Field: 3, F: whole(3, -20, 5)}, api.Step{Op: 8, Form: 4, Field: 1, To: 7}, api.Step{Op: 5, Form: 4, Field: 2, A: 3, T: []int{2, 0}},
		api.Step{Op: 1, Form: 4, Place: 1, F: text(1, 3), V: str("ab")}, api.Step{Op: 5, Form: 4, Field: 2, A: 5, T: []int{4, 3, 0}}, api.Step{Op: 9, Form: 2, Fields: list(boolean(1), text(7, 2))}, api.Step{Op: 2, Form: 2, Field: 7, V: str("x")}, api.Step{Op: 7, Form: 4, Field: 2},
		api.Step{Op: 7, Form: 4, Field: 1, Place: 3}, api.Step{Op: 2, Form: 4, Field: 3, V: num(-20)}, api.Step{Op: 10, Form: 4}, api.Step{Op: 10, Form: 2}, api.Step{Op: 9, Form: 4, Fields: booleans(2)},
	)
	back = steps(
		api.Step{Op: 29, Form: 4}, api.Step{Op: 30, Form: 2, Fields: booleans(1)}, api.Step{Op: 30, Form: 4, Fields: list(pick(2, 5), whole(7, 0, 10), text(1, 3))}, api.Step{Op: 22, Form: 4, Place: 2, F: whole(3, -20, 5), V: num(-20)}, api.Step{Op: 27, Form: 4, Field: 1, Place: 2},
		api.Step{Op: 27, Form: 4, Field: 2, Place: 3}, api.Step{Op: 22, Form: 2, Place: 1, F: text(7, 2), V: str("x")}, api.Step{Op: 29, Form: 2}, api.Step{Op: 25, Form: 4, Field: 2, T: []int{4, 3, 0}}, api.Step{Op: 21, Form: 4, Field: 1},
		api.Step{Op: 25, Form: 4, Field: 2, T: []int{2, 0}}, api.Step{Op: 28, Form: 4, Field: 7, To: 1}, api.Step{Op: 23, Form: 4, Field: 3, F: whole(3, -17, 1)}, api.Step{Op: 24, Form: 4, Field: 3, A: -2, B: 1, F: whole(3, 0, 9)}, api.Step{Op: 26, Form: 4, Field: 1, A: 10, To: 3, F: whole(1, 0, 100)},
	)
	return on, back
}

// P17.1, P17.3: each step is inverted for the schema that results from the steps before it, and the last one comes first.
func TestBack(t *testing.T) {
	on, back := chain()
	for n := range len(on) + 1 {
		want := back[len(back)-n:]
		got, e := Back(base(), on[:n])
		if e != api.OK || toldAll(got) != toldAll(want) {
			t.Errorf("%d steps: %v, %d, not %v", n, got, e, want)
		}
		for i, x := range got {
			if !step.Right(x) || x.Op != on[n-1-i].Op+20 {
				t.Errorf("%d steps: %v of %v", n, x, on[n-1-i])
			}
		}
		if i, e := Check(base(), on[:n], want); e != api.OK || i != 0 {
			t.Errorf("%d steps: Check = %d, %d", n, i, e)
		}
	}
	for _, x := range on {
		one, e := Invert(base(), x)
		l, bad := Back(base(), steps(x))
		if e != bad || len(l) > 0 && told(l[0]) != told(one) || (len(l) == 1) != (e == api.OK) {
			t.Errorf("Back of %v alone: %v, %d, not %v, %d", x, l, bad, one, e)
		}
	}
}

// P17.1, P17.2: the first step that fails decides, whatever is behind it and whatever the list back is.
func TestListErrors(t *testing.T) {
	on, back := chain()
	for n := range len(on) + 1 {
		for _, bad := range []struct {
			x    api.Step
			want api.Errno
		}{{api.Step{}, api.ErrArg}, {api.Step{Op: 29, Form: 4}, api.ErrArg}, {api.Step{Op: 10, Form: 3}, api.ErrNone}, {api.Step{Op: 9, Form: 9, Fields: booleans(1)}, api.ErrTwice}, {api.Step{Op: 7, Form: 9, Field: 1, Place: 1}, api.ErrRange}, {api.Step{Op: 2, Form: 9, Field: 1, V: num(2)}, api.ErrType}, {api.Step{Op: 2, Form: 9, Field: 1}, api.ErrMany}} {
			for _, rest := range [][]api.Step{nil, on, {{Op: 10, Form: 9}, {}}} {
				l := append(append(slices.Clone(on[:n]), bad.x), rest...)
				if got, e := Back(base(), l); e != bad.want || len(got) > 0 {
					t.Errorf("Back(%v) = %v, %d, not %d", l, got, e, bad.want)
				}
				for _, other := range [][]api.Step{nil, back, back[len(back)-n:], {{}}} {
					if i, e := Check(base(), l, other); e != bad.want || i != n {
						t.Errorf("Check(%v, %v) = %d, %d, not %d, %d", l, other, i, e, n, bad.want)
					}
				}
			}
		}
	}
}

// P17.1, P17.2: no step has no inverse, and only it; with a step the schema must be valid.
func TestNone(t *testing.T) {
	for _, s := range append(schemas(), version(-1), version(1, form(201))) {
		for _, l := range [][]api.Step{nil, {}} {
			if got, e := Back(s, l); e != api.OK || len(got) > 0 {
				t.Errorf("Back(%v, none) = %v, %d", s, got, e)
			}
			for _, none := range [][]api.Step{nil, {}} {
				if i, e := Check(s, l, none); e != api.OK || i != 0 {
					t.Errorf("Check(%v, none, none) = %d, %d", s, i, e)
				}
			}
			for _, some := range [][]api.Step{{{}}, {{}, {}}, {{Op: 29, Form: 4}}} {
				if i, e := Check(s, l, some); e != api.ErrPair || i != 0 {
					t.Errorf("Check(%v, none, %v) = %d, %d", s, some, i, e)
				}
			}
		}
		x := steps(api.Step{Op: 9, Form: 199, Fields: booleans(1)})
		_, at, want := typing.All(s, x)
		if got, e := Back(s, x); e != want || len(got) > 0 != (e == api.OK) {
			t.Errorf("Back(%v) = %v, %d, not %d", s, got, e, want)
		}
		if i, e := Check(s, x, steps(api.Step{Op: 29, Form: 199})); e != want || i != at {
			t.Errorf("Check(%v) = %d, %d, not %d", s, i, e, want)
		}
	}
}

// changed returns steps that differ from x in one member each.
func changed(x api.Step) []api.Step {
	l := []api.Step{}
	for _, d := range []int{1, -1, 1 << 32, math.MinInt} {
		for k := range 13 {
			y := clone(x)
			*[]*int{&y.Op, &y.Form, &y.Field, &y.Place, &y.To, &y.A, &y.B, &y.F.ID, &y.F.Kind, &y.F.Lo, &y.F.Hi, &y.F.Most, &y.V.N}[k] += d
			l = append(l, y)
		}
		for k := range x.T {
			y := clone(x)
			y.T[k] += d
			l = append(l, y)
		}
		for k := range x.Fields {
			for m := range 5 {
				y := clone(x)
				f := &y.Fields[k]
				*[]*int{&f.ID, &f.Kind, &f.Lo, &f.Hi, &f.Most}[m] += d
				l = append(l, y)
			}
		}
	}
	y := clone(x)
	y.V.S += "\x00"
	z := clone(x)
	z.T = append(z.T, 0)
	w := clone(x)
	w.Fields = append(w.Fields, api.Field{})
	l = append(l, y, z, w)
	if len(x.T) > 1 {
		y, z = clone(x), clone(x)
		slices.Reverse(y.T)
		z.T = z.T[:len(z.T)-1]
		l = append(l, y, z)
	}
	if len(x.Fields) > 1 {
		y, z = clone(x), clone(x)
		slices.Reverse(y.Fields)
		z.Fields = z.Fields[1:]
		l = append(l, y, z)
	}
	return l
}

// P17.2, P17.3: of lists with one changed, missing or further step, or two changed ones, none passes, and the index is that of the first difference.
func TestCheck(t *testing.T) {
	on, back := chain()
	differ := func(l []api.Step, want int) {
		t.Helper()
		if i, e := Check(base(), on, l); e != api.ErrPair || i != want {
			t.Errorf("Check(%v) = %d, %d, not %d", l, i, e, want)
		}
	}
	for i, x := range back {
		for _, y := range append(changed(x), api.Step{}) {
			differ(slices.Replace(slices.Clone(back), i, i+1, y), i)
			differ(append(slices.Clone(back[:i]), y), i)
			for k := range i {
				differ(append(append(slices.Clone(back[:k]), y), back[k+1:]...), k)
				l := slices.Clone(back)
				l[i], l[k] = y, y
				differ(l, k)
			}
		}
		differ(back[:i], i)
		differ(slices.Delete(slices.Clone(back), i, i+1), i)
		differ(slices.Insert(slices.Clone(back), i, api.Step{}), i)
	}
	for _, x := range append(on, append(back, api.Step{})...) {
		differ(append(slices.Clone(back), x), len(back))
		differ(append(slices.Clone(back), x, x), len(back))
	}
	differ(nil, 0)
	differ(on, 0)
	differ(append(slices.Clone(back), back...), len(back))
	forward := slices.Clone(back)
	slices.Reverse(forward)
	differ(forward, 0)
	// Lists that are empty instead of nil are no difference.
	bare := cloneAll(back)
	for i := range bare {
		bare[i].T, bare[i].Fields = append([]int{}, bare[i].T...), append([]api.Field{}, bare[i].Fields...)
	}
	if i, e := Check(base(), on, bare); e != api.OK || i != 0 {
		t.Errorf("empty lists: %d, %d", i, e)
	}
	// The list back of another schema.
	for _, s := range []api.Schema{version(3, form(4, whole(1, 0, 101), pick(2, 2)), form(9, boolean(1))), version(3, form(4, pick(2, 2), whole(1, 0, 100)), form(9, boolean(1)))} {
		other, e := Back(s, on)
		first := 0
		for e == api.OK && told(other[first]) == told(back[first]) {
			first++
		}
		if i, bad := Check(s, on, back); e != api.OK || bad != api.ErrPair || i != first {
			t.Errorf("another schema: %d, %d, not %d", i, bad, first)
		}
	}
}

// P17.1 to P17.3: random lists, against the chapter step by step.
func TestRandom(t *testing.T) {
	r := rand.New(rand.NewSource(171))
	usual := slices.DeleteFunc(all(), func(x api.Step) bool { return !step.Right(x) || x.Op > 10 })
	good := 0
	for range 8000 {
		s := schemas()[r.Intn(len(schemas()))]
		now, on, want := s, []api.Step{}, []api.Step{}
		for range r.Intn(10) {
			x := usual[r.Intn(len(usual))]
			for try := 0; try < 40; try++ { // mostly steps that can be applied
				if _, e := expected(now, x); e == api.OK {
					break
				}
				x = usual[r.Intn(len(usual))]
			}
			on = append(on, x)
			if back, e := expected(now, x); e == api.OK {
				want = append(steps(back), want...)
			}
			now, _ = typing.On(now, x)
		}
		now, at, bad := typing.All(s, on)
		if bad != api.OK {
			want = nil
		}
		got, e := Back(s, on)
		if e != bad || toldAll(got) != toldAll(want) {
			t.Fatalf("Back(%v, %v) = %v, %d, not %v, %d", s, on, got, e, want, bad)
		}
		if i, e := Check(s, on, got); e != bad || i != at {
			t.Fatalf("Check(%v, %v, %v) = %d, %d, not %d, %d", s, on, got, i, e, at, bad)
		}
		for i, x := range got {
			good++
			now = undone(now, x)
			if k, e := Check(s, on, slices.Replace(slices.Clone(got), i, i+1, on[i])); !step.Right(x) || e != api.ErrPair || k != i {
				t.Fatalf("Check(%v, %v) = %d, %d, with a step on at %d", s, on, k, e, i)
			}
		}
		if bad == api.OK && fmt.Sprint(now) != fmt.Sprint(s) {
			t.Fatalf("Back(%v, %v) = %v: it leads back to %v", s, on, got, now)
		}
	}
	if good < 10000 {
		t.Errorf("only %d steps of lists that can be applied", good)
	}
}

// P17.1, P17.2: lists of more steps than a link or a path may have.
func TestLong(t *testing.T) {
	on, back := []api.Step{}, []api.Step{}
	for i := range 2000 {
		on = append(on, api.Step{Op: 8, Form: 7, Field: i % 200, To: (i + 1) % 200})
		back = append(back, api.Step{Op: 28, Form: 7, Field: (2000 - i) % 200, To: (1999 - i) % 200})
	}
	s := version(5, form(7, text(0, 3)))
	for _, n := range []int{40, 41, 200, 201, 1999, 2000} {
		want := back[2000-n:]
		if got, e := Back(s, on[:n]); e != api.OK || toldAll(got) != toldAll(want) {
			t.Errorf("%d steps: %v, %d", n, got, e)
		}
		if i, e := Check(s, on[:n], want); e != api.OK || i != 0 {
			t.Errorf("%d steps: %d, %d", n, i, e)
		}
		if i, e := Check(s, on[:n], want[:n-1]); e != api.ErrPair || i != n-1 {
			t.Errorf("%d steps: %d, %d", n, i, e)
		}
		if i, e := Check(s, append(slices.Clone(on[:n]), api.Step{Op: 8, Form: 7, Field: 201, To: 0}), want); e != api.ErrNone || i != n {
			t.Errorf("%d steps: %d, %d", n, i, e)
		}
	}
}

// roomy returns copies with spare capacity behind all lists, and a function that reports whether neither they nor the capacity have been modified.
func roomy(s api.Schema, l []api.Step) (api.Schema, []api.Step, func() bool) {
	s.Forms = append(make([]api.Form, 0, len(s.Forms)+3), s.Forms...)
	for i, f := range s.Forms {
		s.Forms[i].Fields = append(make([]api.Field, 0, 8), f.Fields...)
	}
	l = append(make([]api.Step, 0, len(l)+3), l...)
	for i, x := range l {
		l[i].T, l[i].Fields = append(make([]int, 0, 9), x.T...), append(make([]api.Field, 0, 9), x.Fields...)
	}
	now := func() string {
		all := toldAll(l[:cap(l)]) + fmt.Sprint(s.Version, s.Forms[:cap(s.Forms)])
		for _, f := range s.Forms {
			all += fmt.Sprint(f.Fields[:cap(f.Fields)])
		}
		for _, x := range l {
			all += fmt.Sprint(x.T[:cap(x.T)], x.Fields[:cap(x.Fields)])
		}
		return all
	}
	first := now()
	return s, l, func() bool { return now() == first }
}

// spoil overwrites a list of steps and all their lists, with their spare capacity.
func spoil(l []api.Step) {
	for _, x := range l {
		clear(x.T[:cap(x.T)])
		clear(x.Fields[:cap(x.Fields)])
	}
	clear(l[:cap(l)])
}

// R3: neither arguments nor their spare capacity are modified.
func TestArguments(t *testing.T) {
	first, last := chain()
	s, on, same := roomy(base(), first)
	_, back, sameBack := roomy(base(), last)
	for i, x := range on {
		Invert(s, x)
		Back(s, on[i:])
		Check(s, on[i:], back)
		Check(s, on, back[i:])
		Check(s, on[:i], back[:i])
	}
	Back(s, on)
	Check(s, on, back)
	if !same() || !sameBack() {
		t.Error("an argument was modified")
	}
}

// R3: results share no memory with arguments or with other results, nor two lists of one result.
func TestMemory(t *testing.T) {
	first, want := chain()
	s, on, same := roomy(base(), first)
	a, _ := Back(s, on)
	b, _ := Back(s, on)
	spoil(a)
	if !same() || toldAll(b) != toldAll(want) {
		t.Error("the result of Back shares memory with its arguments or another result")
	}
	for _, f := range s.Forms {
		clear(f.Fields)
	}
	spoil(on)
	if toldAll(b) != toldAll(want) {
		t.Error("the result of Back shares memory with its arguments")
	}
	for i, x := range b {
		spoil(steps(x))
		b[i].T, b[i].Fields, want[i].T, want[i].Fields = nil, nil, nil, nil
		if toldAll(b) != toldAll(want) {
			t.Errorf("the lists of step %d share memory with others", i)
		}
	}
	for _, x := range steps(api.Step{Op: 10, Form: 4}, api.Step{Op: 5, Form: 4, Field: 2, A: 3, T: []int{2, 0}}) {
		s, l, same := roomy(base(), steps(x))
		one, _ := Invert(s, l[0])
		two, _ := Invert(s, l[0])
		want, _ := expected(base(), x)
		spoil(steps(one))
		if !same() {
			t.Errorf("the result of Invert(%v) shares memory with its arguments", x)
		}
		clear(s.Forms[0].Fields)
		spoil(l)
		if told(two) != told(want) {
			t.Errorf("the result of Invert(%v) shares memory", x)
		}
	}
}

// R3: what is behind the end of a slice does not belong to it.
func TestEnds(t *testing.T) {
	fields, forms, table := list(whole(1, 0, 9), pick(2, 2), boolean(3)), []api.Form{form(6, boolean(1)), form(7, boolean(1))}, []int{1, 0, 2}
	forms[0].Fields = fields[:2]
	s := version(1, forms[:1]...)
	if got, e := Invert(s, api.Step{Op: 10, Form: 6}); e != api.OK || told(got) != told(api.Step{Op: 30, Form: 6, Fields: fields[:2]}) {
		t.Errorf("%v, %d", got, e)
	}
	if got, e := Invert(s, api.Step{Op: 5, Form: 6, Field: 2, A: 3, T: table[:2]}); e != api.OK || told(got) != told(api.Step{Op: 25, Form: 6, Field: 2, T: []int{1, 0}}) {
		t.Errorf("%v, %d", got, e)
	}
	if got, e := Invert(s, api.Step{Op: 10, Form: 7}); e != api.ErrNone || told(got) != told(api.Step{}) {
		t.Errorf("a form behind the end: %v, %d", got, e)
	}
	on, back := chain()
	if i, e := Check(base(), on, back[:14]); e != api.ErrPair || i != 14 {
		t.Errorf("a step behind the end: %d, %d", i, e)
	}
	if i, e := Check(base(), on[:14], back[1:]); e != api.OK || i != 0 {
		t.Errorf("the list without its last step: %d, %d", i, e)
	}
	x := api.Step{Op: 25, Form: 6, Field: 2, T: table[:1]}
	if i, e := Check(s, steps(api.Step{Op: 5, Form: 6, Field: 2, A: 3, T: table[:2]}), steps(x)); e != api.ErrPair || i != 0 {
		t.Errorf("a number behind the end: %d, %d", i, e)
	}
}
