package whole

import (
	"fmt"
	"math"
	"math/rand"
	"slices"
	"sort"
	"strings"
	"testing"

	"instar/api"
	"instar/record"
	"instar/schema"
	"instar/turn"
	"instar/typing"
)

func whole(id, lo, hi int) api.Field { return api.Field{ID: id, Kind: 1, Lo: lo, Hi: hi} }

func boolean(id int) api.Field { return api.Field{ID: id, Kind: 2} }

func pick(id, n int) api.Field { return api.Field{ID: id, Kind: 3, Most: n} }

func text(id, n int) api.Field { return api.Field{ID: id, Kind: 4, Most: n} }

func num(n int) api.Value { return api.Value{N: n} }

func str(s string) api.Value { return api.Value{S: s} }

func fields(l ...api.Field) []api.Field { return l }

func form(id int, l ...api.Field) api.Form { return api.Form{ID: id, Fields: l} }

func version(n int, l ...api.Form) api.Schema { return api.Schema{Version: n, Forms: l} }

func steps(l ...api.Step) []api.Step { return l }

func list(l ...api.Item) []api.Item { return l }

// main returns the item of a record.
func main(form, id int, data string) api.Item {
	return api.Item{Key: uint32(65536*form + id), Data: data}
}

// side returns the item of what step n removes from a record.
func side(n, form, id int, data string) api.Item {
	return api.Item{Key: uint32(16777216*(n+1) + 65536*form + id), Data: data}
}

// numbers returns the step number, or -1, the form and the number of the record that a key has.
func numbers(k uint32) (int, int, int) {
	return int(k)/16777216 - 1, int(k) / 65536 % 256, int(k) % 65536
}

// ordered returns a copy of items in the order of their keys.
func ordered(items []api.Item) []api.Item {
	l := slices.Clone(items)
	sort.SliceStable(l, func(i, j int) bool { return l[i].Key < l[j].Key })
	return l
}

func told(items []api.Item) string {
	s := ""
	for _, x := range items {
		n, f, id := numbers(x.Key)
		s += fmt.Sprintf("[%d %d %d %q]", n, f, id, x.Data)
	}
	return s
}

// formIn returns the form with an ID, or the zero form.
func formIn(s api.Schema, id int) api.Form {
	for _, f := range s.Forms {
		if f.ID == id {
			return f
		}
	}
	return api.Form{}
}

// fitting reports whether items fit a valid schema.
func fitting(s api.Schema, items []api.Item) bool {
	for i, x := range items {
		if len(x.Data) > 64 || i > 0 && x.Key <= items[i-1].Key {
			return false
		}
		n, f, _ := numbers(x.Key)
		if _, e := record.Take(formIn(s, f), []byte(x.Data)); n < 0 && e != api.OK {
			return false
		}
	}
	return true
}

// firstError returns the error of On and Back before they look at the items, and the schemas before and after each step.
func firstError(s api.Schema, l []api.Step, items []api.Item) ([]api.Schema, api.Errno) {
	if !schema.Right(s) {
		return nil, api.ErrArg
	}
	if len(l) > 200 {
		return nil, api.ErrMany
	}
	if _, _, e := typing.All(s, l); e != api.OK {
		return nil, e
	}
	all := []api.Schema{s}
	for n := range l {
		next, _ := typing.On(all[n], l[n])
		all = append(all, next)
	}
	if len(l) > 0 && len(items) > 20000/len(l) {
		return nil, api.ErrWork
	}
	return all, api.OK
}

// expectedOn returns what On must return: step by step, each on all records, which are kept under their keys.
func expectedOn(s api.Schema, l []api.Step, items []api.Item) ([]api.Item, api.Errno) {
	all, e := firstError(s, l, items)
	if e != api.OK {
		return nil, e
	}
	if !fitting(s, items) {
		return nil, api.ErrDamage
	}
	recs, result := map[uint32]api.Record{}, []api.Item{}
	for _, x := range items {
		if x.Key >= 16777216 {
			return nil, api.ErrDamage
		}
		_, f, _ := numbers(x.Key)
		recs[x.Key], _ = record.Take(formIn(s, f), []byte(x.Data))
	}
	for n, x := range l {
		for k, r := range recs {
			d, e := turn.On(all[n], x, r)
			if e != api.OK {
				return nil, 99
			}
			recs[k] = d.Rec
			if d.Has {
				result = append(result, api.Item{Key: uint32(n+1)<<24 + k, Data: d.Lost})
			}
			if d.Gone {
				delete(recs, k)
			}
		}
	}
	for k, r := range recs {
		b, e := record.Lay(formIn(all[len(l)], r.Form), r)
		if e != api.OK {
			return nil, 99
		}
		result = append(result, api.Item{Key: k, Data: string(b)})
	}
	return ordered(result), api.OK
}

// oneBack undoes the steps before number n, of which l has no others, on one record; it returns the record, or the number of the step that fails and its error.
func oneBack(all []api.Schema, l []api.Step, r api.Record, id int, items []api.Item) (api.Record, int, api.Errno) {
	for n := len(l) - 1; n >= 0; n-- {
		lost, has := "", false
		for _, x := range items {
			if x.Key == side(n, r.Form, id, "").Key {
				lost, has = x.Data, true
			}
		}
		var e api.Errno
		if r, e = turn.Back(all[n], l[n], r, lost, has); e != api.OK {
			return api.Record{}, n, e
		}
	}
	return r, 0, api.OK
}

// expectedBack returns what Back must return: record by record, each through all steps.
func expectedBack(s api.Schema, l []api.Step, items []api.Item) ([]api.Item, api.Errno) {
	all, e := firstError(s, l, items)
	if e != api.OK {
		return nil, e
	}
	if !fitting(all[len(l)], items) {
		return nil, api.ErrDamage
	}
	for _, x := range items {
		n, f, _ := numbers(x.Key)
		if n >= len(l) || n >= 0 && (l[n].Form != f || l[n].Op != 2 && l[n].Op != 10) {
			return nil, api.ErrDamage
		}
	}
	result, worst, bad := []api.Item{}, -1, api.OK
	for _, x := range items {
		n, f, id := numbers(x.Key)
		var r api.Record
		at, e := n, api.OK
		switch {
		case n < 0:
			r, _ = record.Take(formIn(all[len(l)], f), []byte(x.Data))
			r, at, e = oneBack(all, l, r, id, items)
		case l[n].Op == 10:
			if r, e = turn.Regain(all[n], l[n], x.Data); e == api.OK {
				r, at, e = oneBack(all, l[:n], r, id, items)
			}
		default:
			continue
		}
		if e != api.OK && at > worst {
			worst, bad = at, e
		}
		b, _ := record.Lay(formIn(s, f), r)
		result = append(result, main(f, id, string(b)))
	}
	if bad != api.OK {
		return nil, bad
	}
	return ordered(result), api.OK
}

// checkOn compares On with what the chapter requires, and its result with P20.4.
func checkOn(t *testing.T, s api.Schema, l []api.Step, items []api.Item) ([]api.Item, api.Errno) {
	t.Helper()
	want, bad := expectedOn(s, l, items)
	got, e := On(s, l, items)
	if e != bad || !slices.Equal(got, want) {
		t.Fatalf("On(%v, %v, %s) = %s, %d, not %s, %d", s, l, told(items), told(got), e, told(want), bad)
	}
	if e != api.OK {
		return got, e
	}
	after, _, _ := typing.All(s, l)
	if !Fits(after, got) {
		t.Fatalf("On(%v, %v, %s) = %s: it does not fit %v", s, l, told(items), told(got), after)
	}
	again, e := Back(s, l, got)
	if len(got)*len(l) > 20000 {
		if e != api.ErrWork || len(again) != 0 {
			t.Fatalf("%d items and %d steps: the way back returns %d items, %d", len(got), len(l), len(again), e)
		}
	} else if e != api.OK || !slices.Equal(again, items) {
		t.Fatalf("On(%v, %v, %s) = %s: the way back leads to %s, %d", s, l, told(items), told(got), told(again), e)
	}
	return got, api.OK
}

// checkBack compares Back with what the chapter requires.
func checkBack(t *testing.T, s api.Schema, l []api.Step, items []api.Item) ([]api.Item, api.Errno) {
	t.Helper()
	want, bad := expectedBack(s, l, items)
	got, e := Back(s, l, items)
	if e != bad || !slices.Equal(got, want) {
		t.Fatalf("Back(%v, %v, %s) = %s, %d, not %s, %d", s, l, told(items), told(got), e, told(want), bad)
	}
	return got, e
}

// checkAlone compares the result of Back with those for each record alone, with its own side items.
func checkAlone(t *testing.T, s api.Schema, l []api.Step, items []api.Item) {
	t.Helper()
	together, bad := Back(s, l, items)
	groups := map[uint32][]api.Item{}
	for _, x := range items {
		groups[x.Key%16777216] = append(groups[x.Key%16777216], x)
	}
	var parts []api.Item
	failed := false
	for k, group := range groups {
		got, e := Back(s, l, group)
		if e != api.OK {
			failed = true
		} else if len(got) > 1 || len(got) == 1 && got[0].Key != k {
			t.Fatalf("Back(%v, %v, %s) = %s", s, l, told(group), told(got))
		}
		parts = append(parts, got...)
	}
	if failed != (bad != api.OK) || !failed && !slices.Equal(ordered(parts), together) {
		t.Fatalf("Back(%v, %v, %s) = %s, %d, but of each record alone %s, %v", s, l, told(items), told(together), bad, told(ordered(parts)), failed)
	}
}

// device returns a schema of four forms, and records of them.
func device() (api.Schema, []api.Item) {
	s := version(9, form(0, whole(1, 0, 99), text(2, 4)), form(3, boolean(1)), form(7, pick(1, 3), whole(2, -10, 300), boolean(3)), form(200, text(0, 32), text(255, 30)))
	return s, list(
		main(0, 0, "\x2a\x02hi"), main(0, 1, "\x00\x00"), main(0, 65535, "\x63\x04four"),
		main(3, 0, "\x01"), main(3, 7, "\x00"),
		main(7, 5, "\x02\x00\x0a\x01"), main(7, 6, "\x00\x01\x36\x00"),
		main(200, 65535, longest))
}

// longest is the longest encoding of a record.
var longest = "\x20" + strings.Repeat("\xff", 32) + "\x1e" + strings.Repeat("\x00", 30)

// P20.1: lists that fit, and lists that do not because of one item.
func TestFits(t *testing.T) {
	s, items := device()
	good := [][]api.Item{nil, {}, items, items[:1], items[2:5], items[7:],
		{side(0, 0, 0, "")}, {side(0, 0, 0, strings.Repeat("x", 64))}, {side(254, 255, 65535, "\xff")}, {side(3, 100, 4, "anything"), side(4, 3, 7, "\x02")},
		append(slices.Clone(items), side(0, 3, 0, "\x05"), side(0, 3, 7, ""), side(1, 3, 7, "\x01"))}
	for _, l := range good {
		if !Fits(s, l) || !fitting(s, l) {
			t.Errorf("%s does not fit", told(l))
		}
	}
	bad := [][]api.Item{
		{main(0, 0, "")}, {main(0, 0, "\x2a")}, {main(0, 0, "\x2a\x02h")}, {main(0, 0, "\x2a\x02hi!")}, {main(0, 0, "\x64\x02hi")}, {main(0, 0, "\x2a\x05hello")}, {main(0, 0, "\x00\x2a\x02hi")},
		{main(3, 9, "\x02")}, {main(3, 9, "\x00\x00")}, {main(7, 9, "\x03\x00\x0a\x01")}, {main(7, 9, "\x02\x01\x37\x01")}, {main(7, 9, "\x02\x00\x0a\x02")},
		{main(1, 0, "\x01")}, {main(2, 0, "\x2a\x02hi")}, {main(4, 0, "\x01")}, {main(199, 0, "\x00\x00")}, {main(201, 0, "\x00\x00")}, {main(255, 65535, "\x01")}, {main(1, 0, "")}, {main(255, 0, "")},
		{main(200, 0, longest+"\x00")}, {main(200, 0, longest[:63])},
		{items[0], items[0]}, {items[1], items[0]}, {items[3], items[2]}, {side(0, 0, 0, ""), items[0]}, {side(0, 0, 0, ""), side(0, 0, 0, "")}, {side(1, 0, 0, ""), side(0, 0, 0, "")}, {items[0], side(0, 0, 1, ""), side(0, 0, 0, "")},
		{side(0, 0, 0, strings.Repeat("x", 65))}, {items[0], side(9, 200, 0, strings.Repeat("x", 65))},
	}
	for _, l := range bad {
		if Fits(s, l) || fitting(s, l) {
			t.Errorf("%s fits", told(l))
		}
	}
	for i := range items {
		for _, data := range []string{"", items[i].Data + "\x00", items[i].Data[1:], "\xff" + items[i].Data} {
			l := slices.Clone(items)
			l[i].Data = data
			if Fits(s, l) {
				t.Errorf("%s fits", told(l))
			}
		}
	}
}

// P20.1: schemas that are not valid, whatever the list.
func TestFitsSchema(t *testing.T) {
	twice := form(3, boolean(1), boolean(1))
	for _, s := range strange() {
		for _, l := range [][]api.Item{nil, {}, {main(3, 0, "\x01")}, {main(3, 0, "\x01\x01")}, {side(0, 3, 0, "\x01")}} {
			if Fits(s, l) {
				t.Errorf("%s fits %v", told(l), s)
			}
		}
	}
	if s := version(1, form(3, boolean(1)), twice); Fits(s, list(main(3, 0, "\x01"))) {
		t.Errorf("it fits %v", s)
	}
	if s := version(65535); !Fits(s, nil) || !Fits(s, list(side(0, 0, 0, ""))) || Fits(s, list(main(0, 0, ""))) {
		t.Errorf("a schema without forms")
	}
}

// strange returns schemas that are not valid.
func strange() []api.Schema {
	nine := version(1)
	for k := range 9 {
		nine.Forms = append(nine.Forms, form(k, boolean(1)))
	}
	return []api.Schema{{}, version(0, form(3, boolean(1))), version(-1, form(3, boolean(1))), version(65536, form(3, boolean(1))), version(1, form(3)), version(1, form(3, boolean(1), boolean(1))), version(1, form(201, boolean(1))),
		version(1, form(3, boolean(256))), version(1, form(3, api.Field{ID: 1})), version(1, form(4, boolean(1)), form(3, boolean(1))), version(1, form(3, boolean(1)), form(3, boolean(1))), version(1, form(3, text(1, 32), text(2, 32))), nine}
}

// P20.2, P20.3: exact results of lists of steps, and the way back.
func TestOn(t *testing.T) {
	s, items := device()
	ff := longest
	tests := []struct {
		l    []api.Step
		want []api.Item
	}{
		{nil, items},
		{steps(api.Step{Op: 1, Form: 3, Place: 1, F: whole(9, 5, 300), V: num(6)}), list(items[0], items[1], items[2], main(3, 0, "\x01\x00\x01"), main(3, 7, "\x00\x00\x01"), items[5], items[6], items[7])},
		{steps(api.Step{Op: 2, Form: 0, Field: 2}), list(main(0, 0, "\x2a"), main(0, 1, "\x00"), main(0, 65535, "\x63"), items[3], items[4], items[5], items[6], items[7], side(0, 0, 0, "\x02hi"), side(0, 0, 1, "\x00"), side(0, 0, 65535, "\x04four"))},
		{steps(api.Step{Op: 3, Form: 7, Field: 2, F: whole(2, -20, 70000)}), list(items[0], items[1], items[2], items[3], items[4], main(7, 5, "\x02\x00\x00\x14\x01"), main(7, 6, "\x00\x00\x01\x40\x00"), items[7])},
		{steps(api.Step{Op: 4, Form: 7, Field: 2, A: -1, B: 290}), list(items[0], items[1], items[2], items[3], items[4], main(7, 5, "\x02\x01\x2c\x01"), main(7, 6, "\x00\x00\x00\x00"), items[7])},
		{steps(api.Step{Op: 5, Form: 7, Field: 1, A: 300, T: []int{299, 0, 7}}), list(items[0], items[1], items[2], items[3], items[4], main(7, 5, "\x00\x07\x00\x0a\x01"), main(7, 6, "\x01\x2b\x01\x36\x00"), items[7])},
		{steps(api.Step{Op: 6, Form: 0, Field: 1, A: 10, To: 3}), list(main(0, 0, "\x04\x02\x02hi"), main(0, 1, "\x00\x00\x00"), main(0, 65535, "\x09\x09\x04four"), items[3], items[4], items[5], items[6], items[7])},
		{steps(api.Step{Op: 7, Form: 0, Field: 1, Place: 1}), list(main(0, 0, "\x02hi\x2a"), main(0, 1, "\x00\x00"), main(0, 65535, "\x04four\x63"), items[3], items[4], items[5], items[6], items[7])},
		{steps(api.Step{Op: 8, Form: 0, Field: 1, To: 77}), items},
		{steps(api.Step{Op: 9, Form: 4, Fields: fields(boolean(1))}), items},
		{steps(api.Step{Op: 10, Form: 0}), list(items[3], items[4], items[5], items[6], items[7], side(0, 0, 0, "\x2a\x02hi"), side(0, 0, 1, "\x00\x00"), side(0, 0, 65535, "\x63\x04four"))},
		{steps(api.Step{Op: 10, Form: 200}), list(items[0], items[1], items[2], items[3], items[4], items[5], items[6], side(0, 200, 65535, ff))},
		// A record loses data of several steps, and is deleted; the steps behind that are of another form with its ID.
		{steps(api.Step{Op: 6, Form: 0, Field: 1, A: 10, To: 3}, api.Step{Op: 2, Form: 0, Field: 1}, api.Step{Op: 10, Form: 0}, api.Step{Op: 9, Form: 0, Fields: fields(boolean(8), boolean(9))}, api.Step{Op: 2, Form: 0, Field: 8}),
			list(items[3], items[4], items[5], items[6], items[7], side(1, 0, 0, "\x04"), side(1, 0, 1, "\x00"), side(1, 0, 65535, "\x09"), side(2, 0, 0, "\x02\x02hi"), side(2, 0, 1, "\x00\x00"), side(2, 0, 65535, "\x09\x04four"))},
		// Each step sees what the ones before it have made.
		{steps(api.Step{Op: 1, Form: 3, F: whole(2, 0, 9), V: num(3)}, api.Step{Op: 4, Form: 3, Field: 2, A: 5, B: 2}, api.Step{Op: 2, Form: 3, Field: 1, V: num(1)}, api.Step{Op: 2, Form: 200, Field: 255}, api.Step{Op: 6, Form: 3, Field: 2, A: 10, To: 1}),
			nil},
		{steps(api.Step{Op: 1, Form: 3, F: whole(2, 0, 9), V: num(3)}, api.Step{Op: 4, Form: 3, Field: 2, A: 5}, api.Step{Op: 2, Form: 3, Field: 1, V: num(1)}, api.Step{Op: 2, Form: 200, Field: 255}, api.Step{Op: 6, Form: 3, Field: 2, A: 10, To: 1}),
			list(items[0], items[1], items[2], main(3, 0, "\x01\x05"), main(3, 7, "\x01\x05"), items[5], items[6], main(200, 65535, ff[:33]), side(2, 3, 0, "\x01"), side(2, 3, 7, "\x00"), side(3, 200, 65535, ff[33:]))},
		// All forms end, not in the order of their keys.
		{steps(api.Step{Op: 10, Form: 200}, api.Step{Op: 10, Form: 3}, api.Step{Op: 10, Form: 7}, api.Step{Op: 10, Form: 0}),
			list(side(0, 200, 65535, ff), side(1, 3, 0, "\x01"), side(1, 3, 7, "\x00"), side(2, 7, 5, "\x02\x00\x0a\x01"), side(2, 7, 6, "\x00\x01\x36\x00"), side(3, 0, 0, "\x2a\x02hi"), side(3, 0, 1, "\x00\x00"), side(3, 0, 65535, "\x63\x04four"))},
	}
	for _, c := range tests {
		got, e := checkOn(t, s, c.l, items)
		if c.want == nil {
			if e != api.ErrType || len(got) != 0 {
				t.Errorf("On(%v) = %s, %d, not ErrType", c.l, told(got), e)
			}
			continue
		}
		if e != api.OK || !slices.Equal(got, c.want) {
			t.Errorf("On(%v) = %s, %d, not %s", c.l, told(got), e, told(c.want))
		}
		if back, e := Back(s, c.l, c.want); e != api.OK || !slices.Equal(back, items) {
			t.Errorf("Back(%v) = %s, %d", c.l, told(back), e)
		}
		checkAlone(t, s, c.l, got)
		for i := range items {
			checkOn(t, s, c.l, items[i:i+1])
			checkOn(t, s, c.l, items[i:])
		}
		checkOn(t, s, c.l, nil)
	}
}

// moves returns steps that can be applied to device and change nothing.
func moves(n int) []api.Step {
	return slices.Repeat(steps(api.Step{Op: 7, Form: 7, Field: 2, Place: 1}), n)
}

// P20.2, P20.3: as many steps as there may be, of which the last one removes data.
func TestChain(t *testing.T) {
	s, items := device()
	for _, last := range []api.Step{{Op: 2, Form: 0, Field: 1, V: num(9)}, {Op: 10, Form: 0}} {
		got, e := checkOn(t, s, append(moves(199), last), items)
		want := side(199, 0, 65535, "\x63")
		if last.Op == 10 {
			want.Data += "\x04four"
		}
		if e != api.OK || got[len(got)-1] != want {
			t.Errorf("%v: %s, %d", last, told(got), e)
		}
	}
	if got, e := checkOn(t, s, moves(201), items); e != api.ErrMany || len(got) != 0 {
		t.Errorf("201 steps: %s, %d", told(got), e)
	}
	if got, e := checkBack(t, s, moves(201), items); e != api.ErrMany || len(got) != 0 {
		t.Errorf("201 steps back: %s, %d", told(got), e)
	}
}

// P20.2, P20.3: the first of several errors.
func TestErrors(t *testing.T) {
	s, items := device()
	call := func(s api.Schema, l []api.Step, items []api.Item, want api.Errno) {
		t.Helper()
		if got, e := On(s, l, items); e != want || len(got) != 0 {
			t.Errorf("On(%v, %d steps, %d items) = %s, %d, not %d", s, len(l), len(items), told(got), e, want)
		}
		if got, e := Back(s, l, items); e != want || len(got) != 0 {
			t.Errorf("Back(%v, %d steps, %d items) = %s, %d, not %d", s, len(l), len(items), told(got), e, want)
		}
	}
	huge := make([]api.Item, 20001) // of which all have the key 0
	broken := list(items[1], items[0])
	stray := append(slices.Clone(items), side(0, 100, 0, ""))
	unfit := steps(api.Step{Op: 10, Form: 7}, api.Step{Op: 10, Form: 7})
	for _, items := range [][]api.Item{nil, items, broken, stray, huge} {
		for _, bad := range strange() {
			for _, l := range [][]api.Step{nil, moves(1), unfit, moves(201)} {
				call(bad, l, items, api.ErrArg)
			}
		}
		call(s, moves(201), items, api.ErrMany)
		call(s, append(unfit, moves(199)...), items, api.ErrMany)
		call(s, make([]api.Step, 201), items, api.ErrMany)
		call(s, unfit, items, api.ErrNone)
		call(s, append(moves(199), api.Step{}), items, api.ErrArg)
		call(s, append(moves(3), api.Step{Op: 27, Form: 7, Field: 2}), items, api.ErrArg)
		call(s, steps(api.Step{Op: 2, Form: 7, Field: 2, V: num(301)}, api.Step{Op: 10, Form: 9}), items, api.ErrType)
		call(s, steps(api.Step{Op: 10, Form: 9}, api.Step{Op: 2, Form: 7, Field: 2, V: num(301)}), items, api.ErrNone)
		call(s, steps(api.Step{Op: 9, Form: 7, Fields: fields(boolean(1))}), items, api.ErrTwice)
		call(s, steps(api.Step{Op: 7, Form: 7, Field: 2, Place: 3}), items, api.ErrRange)
		call(s, steps(api.Step{Op: 2, Form: 3, Field: 1}), items, api.ErrMany)
	}
	call(s, moves(1), huge, api.ErrWork)
	call(s, moves(1), broken, api.ErrDamage)
	call(s, nil, broken, api.ErrDamage)
	call(s, nil, huge, api.ErrDamage)
	call(s, nil, stray, api.ErrDamage)
	call(s, moves(1), stray, api.ErrDamage)
	call(s, moves(1), list(main(1, 0, "\x01")), api.ErrDamage)
	call(s, moves(1), list(main(3, 0, "\x02")), api.ErrDamage)
	call(s, moves(1), list(main(3, 0, "\x01"), main(3, 0, "\x01")), api.ErrDamage)
	call(s, moves(1), list(items[0], side(0, 7, 0, strings.Repeat("x", 65))), api.ErrDamage)
}

// P20.2: the items of On must fit s, not what results, and include no side item, even one that a step produces.
func TestDamageOn(t *testing.T) {
	s, items := device()
	l := steps(api.Step{Op: 2, Form: 0, Field: 2}, api.Step{Op: 10, Form: 3})
	done, e := On(s, l, items)
	if e != api.OK {
		t.Fatal(e)
	}
	for i, x := range done {
		if fit := i >= 3 && x.Key < 1<<24; fit {
			continue
		}
		if got, e := On(s, l, done[i:i+1]); e != api.ErrDamage || len(got) != 0 {
			t.Errorf("On(%s) = %s, %d", told(done[i:i+1]), told(got), e)
		}
	}
	for _, k := range []int{0, 1, 2, 199, 254} {
		for _, f := range []int{0, 3, 7, 200, 201} {
			if got, e := On(s, l, append(slices.Clone(items), side(k, f, 0, "\x00"))); e != api.ErrDamage || len(got) != 0 {
				t.Errorf("with an item of step %d and form %d: %s, %d", k, f, told(got), e)
			}
			if got, e := On(s, nil, list(side(k, f, 0, "\x00"))); e != api.ErrDamage || len(got) != 0 {
				t.Errorf("only an item of step %d and form %d: %s, %d", k, f, told(got), e)
			}
		}
	}
}

// many returns n items of form 3.
func many(n int) []api.Item {
	var l []api.Item
	for i := range n {
		l = append(l, main(3, i, string([]byte{byte(i % 2)})))
	}
	return l
}

// P20.2, P20.3: as much work as there may be, and more; Back counts side items too.
func TestWork(t *testing.T) {
	s, _ := device()
	for _, c := range []struct{ steps, items int }{{1, 20000}, {2, 10000}, {3, 6666}, {7, 2857}, {40, 500}, {100, 200}, {199, 100}, {200, 100}} {
		l := moves(c.steps)
		if got, e := On(s, l, many(c.items)); e != api.OK || len(got) != c.items {
			t.Errorf("%v: %d items on, %d", c, len(got), e)
		}
		if got, e := Back(s, l, many(c.items)); e != api.OK || len(got) != c.items {
			t.Errorf("%v: %d items back, %d", c, len(got), e)
		}
		if got, e := On(s, l, many(c.items+1)); e != api.ErrWork || len(got) != 0 {
			t.Errorf("%v and one more: %d items on, %d", c, len(got), e)
		}
		if got, e := Back(s, l, many(c.items+1)); e != api.ErrWork || len(got) != 0 {
			t.Errorf("%v and one more: %d items back, %d", c, len(got), e)
		}
		l[0] = api.Step{Op: 10, Form: 3}
		got, e := On(s, l, many(c.items))
		if e != api.OK || len(got) != c.items || got[0].Key != side(0, 3, 0, "").Key {
			t.Errorf("%v: %d items deleted, %d", c, len(got), e)
		}
		if back, e := Back(s, l, got); e != api.OK || !slices.Equal(back, many(c.items)) {
			t.Errorf("%v: %d items regained, %d", c, len(back), e)
		}
		got = append(got, side(0, 3, 65535, "\x00"))
		if back, e := Back(s, l, got); e != api.ErrWork || len(back) != 0 {
			t.Errorf("%v and one side item more: %d items regained, %d", c, len(back), e)
		}
	}
	big := many(50000)
	if got, e := On(s, nil, big); e != api.OK || !slices.Equal(got, big) {
		t.Errorf("without steps: %d items on, %d", len(got), e)
	}
	if got, e := Back(s, nil, big); e != api.OK || !slices.Equal(got, big) {
		t.Errorf("without steps: %d items back, %d", len(got), e)
	}
	l := steps(api.Step{Op: 1, Form: 3, F: boolean(2)}, api.Step{Op: 2, Form: 3, Field: 1})
	got, e := checkOn(t, s, l, many(5000))
	if e != api.OK || len(got) != 10000 {
		t.Errorf("%d items, %d", len(got), e)
	}
	if got, e = checkOn(t, s, l, many(5001)); e != api.OK || len(got) != 10002 {
		t.Errorf("%d items, %d", len(got), e)
	}
}

// P20.3: records that have been changed since, added or deleted.
func TestBack(t *testing.T) {
	s, _ := device()
	l := steps(
		api.Step{Op: 2, Form: 0, Field: 2, V: str("none")},
		api.Step{Op: 4, Form: 0, Field: 1, A: 2, B: 1},
		api.Step{Op: 10, Form: 3},
		api.Step{Op: 2, Form: 7, Field: 2, V: num(4)},
		api.Step{Op: 2, Form: 7, Field: 3, V: num(1)},
		api.Step{Op: 9, Form: 5, Fields: fields(boolean(1))})
	tests := []struct {
		items, want []api.Item
		e           api.Errno
	}{
		{nil, nil, 0},
		{list(main(0, 4, "\x0a")), list(main(0, 4, "\x05\x04none")), 0},
		{list(main(0, 4, "\x0a"), side(0, 0, 4, "\x01x")), list(main(0, 4, "\x05\x01x")), 0},
		{list(main(0, 4, "\x0a"), side(0, 0, 5, "\x01x")), list(main(0, 4, "\x05\x04none")), 0},
		{list(main(0, 4, "\x0a"), main(0, 5, "\x00"), side(0, 0, 5, "\x01x")), list(main(0, 4, "\x05\x04none"), main(0, 5, "\x00\x01x")), 0},
		{list(main(0, 4, "\x0a"), main(7, 4, "\x01"), side(0, 0, 4, "\x01x"), side(3, 7, 4, "\x01\x00")), list(main(0, 4, "\x05\x01x"), main(7, 4, "\x01\x01\x00\x01")), 0},
		{list(main(7, 4, "\x01"), side(4, 7, 4, "\x00")), list(main(7, 4, "\x01\x00\x0e\x00")), 0},
		{list(main(7, 4, "\x01")), list(main(7, 4, "\x01\x00\x0e\x01")), 0},
		{list(main(0, 4, "\x0a"), main(7, 4, "\x01"), side(2, 3, 4, "\x01"), side(2, 3, 9, "\x00")), list(main(0, 4, "\x05\x04none"), main(3, 4, "\x01"), main(3, 9, "\x00"), main(7, 4, "\x01\x00\x0e\x01")), 0},
		{list(side(2, 3, 0, "\x01"), side(2, 3, 65535, "\x01")), list(main(3, 0, "\x01"), main(3, 65535, "\x01")), 0},
		// Side items of records that do not exist any more are not looked at.
		{list(side(0, 0, 4, "\x07bad")), nil, 0},
		{list(main(0, 4, "\x0a"), side(0, 0, 3, "\x07bad"), side(3, 7, 4, ""), side(4, 7, 4, "\xff\xff")), list(main(0, 4, "\x05\x04none")), 0},
		// Lost data that is not.
		{list(main(0, 4, "\x0a"), side(0, 0, 4, "\x05longx")), nil, api.ErrDamage},
		{list(main(0, 4, "\x0a"), side(0, 0, 4, "")), nil, api.ErrDamage},
		{list(main(0, 4, "\x0a"), side(0, 0, 4, "\x01xy")), nil, api.ErrDamage},
		{list(side(2, 3, 4, "\x02")), nil, api.ErrDamage},
		{list(side(2, 3, 4, "\x00"), side(2, 3, 5, "")), nil, api.ErrDamage},
		{list(side(2, 3, 4, "\x01\x01")), nil, api.ErrDamage},
		{list(main(7, 4, "\x01"), side(3, 7, 4, "\x01\x37")), nil, api.ErrDamage},
		{list(main(7, 4, "\x01"), side(4, 7, 4, "\x02")), nil, api.ErrDamage},
		// Values that cannot be converted back, and records of a form that did not exist.
		{list(main(0, 4, "\x0b")), nil, api.ErrConv},
		{list(main(0, 3, "\x0a"), main(0, 4, "\x0b")), nil, api.ErrConv},
		{list(main(5, 0, "\x00")), nil, api.ErrConv},
		{list(main(0, 4, "\x0a"), main(5, 0, "\x01")), nil, api.ErrConv},
		// The error of the step that is undone first.
		{list(main(0, 4, "\x0b"), side(2, 3, 4, "\x02")), nil, api.ErrDamage},
		{list(main(0, 4, "\x0b"), side(0, 0, 4, "\x05longx")), nil, api.ErrConv},
		{list(main(0, 3, "\x0a"), main(0, 4, "\x0b"), side(0, 0, 3, "\x05longx")), nil, api.ErrConv},
		{list(main(0, 4, "\x0b"), main(7, 0, "\x00"), side(4, 7, 0, "\x05")), nil, api.ErrDamage},
		{list(main(5, 4, "\x00"), main(7, 0, "\x00"), side(2, 3, 4, "\x02"), side(4, 7, 0, "\x05")), nil, api.ErrConv},
		// Items that do not fit the resulting schema.
		{list(main(0, 4, "\x2a\x02hi")), nil, api.ErrDamage},
		{list(main(3, 4, "\x01")), nil, api.ErrDamage},
		{list(main(7, 4, "\x02\x00\x0a\x01")), nil, api.ErrDamage},
		{list(main(7, 4, "\x03")), nil, api.ErrDamage},
		{list(main(5, 4, "\x02")), nil, api.ErrDamage},
		{list(main(0, 4, "\x0a"), main(0, 4, "\x0a")), nil, api.ErrDamage},
		{list(main(0, 4, "\x0a"), main(0, 3, "\x0a")), nil, api.ErrDamage},
		{list(side(0, 0, 4, "\x00"), main(0, 4, "\x0a")), nil, api.ErrDamage},
		{list(side(2, 3, 5, "\x00"), side(2, 3, 4, "\x00")), nil, api.ErrDamage},
		{list(side(0, 0, 4, strings.Repeat("x", 65))), nil, api.ErrDamage},
		{list(main(0, 4, "\x0b"), main(1, 0, "\x00")), nil, api.ErrDamage},
	}
	for _, c := range tests {
		got, e := checkBack(t, s, l, c.items)
		if e != c.e || !slices.Equal(got, c.want) {
			t.Errorf("Back(%s) = %s, %d, not %s, %d", told(c.items), told(got), e, told(c.want), c.e)
		}
	}
}

// P20.3: each step number and each form of a side item.
func TestStray(t *testing.T) {
	s, _ := device()
	l := steps(
		api.Step{Op: 2, Form: 0, Field: 2}, api.Step{Op: 10, Form: 3}, api.Step{Op: 4, Form: 0, Field: 1, A: 1}, api.Step{Op: 9, Form: 100, Fields: fields(boolean(1))}, api.Step{Op: 1, Form: 7, F: boolean(9)}, api.Step{Op: 10, Form: 200},
		api.Step{Op: 3, Form: 7, Field: 1, F: pick(1, 4)}, api.Step{Op: 5, Form: 7, Field: 1, A: 4, T: []int{3, 2, 1, 0}}, api.Step{Op: 6, Form: 0, Field: 1, A: 3, To: 6}, api.Step{Op: 7, Form: 7, Field: 1}, api.Step{Op: 8, Form: 7, Field: 1, To: 8}, api.Step{Op: 2, Form: 7, Field: 3})
	data := map[[2]int]string{{0, 0}: "\x00", {1, 3}: "\x01", {5, 200}: "\x00\x00", {11, 7}: "\x01"}
	for n := range 255 {
		for f := range 256 {
			d, ok := data[[2]int{n, f}]
			want := api.ErrDamage
			if ok {
				want = api.OK
			}
			items := list(side(n, f, 4, d))
			if got, e := Back(s, l, items); e != want || len(got) > 1 || len(got) == 1 && l[n].Op != 10 {
				t.Errorf("Back(%s) = %s, %d, not %d", told(items), told(got), e, want)
			}
			if f%67 == 0 || f == 3 || f == 7 {
				checkBack(t, s, l, items)
			}
			if got, e := Back(s, nil, items); e != api.ErrDamage || len(got) != 0 {
				t.Errorf("Back(%s) without steps = %s, %d", told(items), told(got), e)
			}
		}
	}
	one := slices.Clone(list(side(0, 0, 4, "\x00"), side(1, 3, 4, "\x01"), side(11, 7, 4, "\x01")))
	for i := range one {
		for _, x := range []api.Item{side(2, 0, 4, "\x00"), side(12, 7, 4, "\x01"), side(11, 6, 9, "\x01"), side(0, 1, 4, "\x00")} {
			bad := slices.Clone(one)
			bad[i] = x
			if got, e := Back(s, l, ordered(bad)); e != api.ErrDamage || len(got) != 0 {
				t.Errorf("Back(%s) = %s, %d", told(ordered(bad)), told(got), e)
			}
		}
	}
}

// someField returns a random field.
func someField(r *rand.Rand, id int) api.Field {
	switch r.Intn(5) {
	case 0:
		return boolean(id)
	case 1:
		return pick(id, 1+r.Intn(5))
	case 2:
		return text(id, r.Intn(4))
	case 3:
		return whole(id, 0, r.Intn(1<<r.Intn(16)))
	}
	lo := r.Intn(1<<r.Intn(20)) - r.Intn(1<<r.Intn(20))
	return whole(id, lo, lo+r.Intn(1<<r.Intn(20)))
}

// someValue returns a random value of a field.
func someValue(r *rand.Rand, f api.Field) api.Value {
	switch f.Kind {
	case 1:
		return num(f.Lo + r.Intn(f.Hi-f.Lo+1))
	case 2:
		return num(r.Intn(2))
	case 3:
		return num(r.Intn(f.Most))
	}
	b := make([]byte, r.Intn(f.Most+1))
	r.Read(b)
	return str(string(b))
}

// someForm returns a random form.
func someForm(r *rand.Rand, id int) api.Form {
	f := form(id)
	for _, k := range r.Perm(20)[:1+r.Intn(4)] {
		f.Fields = append(f.Fields, someField(r, k))
	}
	return f
}

// someStep returns a random step for a schema, which mostly can be applied.
func someStep(r *rand.Rand, s api.Schema) api.Step {
	if len(s.Forms) == 0 || r.Intn(12) == 0 {
		f := someForm(r, r.Intn(4))
		return api.Step{Op: 9, Form: f.ID, Fields: f.Fields}
	}
	f := s.Forms[r.Intn(len(s.Forms))]
	if r.Intn(12) == 0 {
		return api.Step{Op: 10, Form: f.ID}
	}
	old := f.Fields[r.Intn(len(f.Fields))]
	x := api.Step{Op: 1 + r.Intn(8), Form: f.ID, Field: old.ID}
	switch x.Op {
	case 1:
		x.Field, x.Place, x.F = 0, r.Intn(len(f.Fields)+1), someField(r, r.Intn(20))
		x.V = someValue(r, x.F)
	case 2:
		x.V = someValue(r, old)
	case 3:
		x.F = old
		switch old.Kind {
		case 1:
			x.F.Lo, x.F.Hi = old.Lo-r.Intn(9), old.Hi+r.Intn(9)
		case 3, 4:
			x.F.Most += r.Intn(4)
		}
	case 4:
		x.A, x.B = (1+r.Intn(3))*(1-2*r.Intn(2)), r.Intn(1<<r.Intn(10))-r.Intn(1<<r.Intn(10))
	case 5:
		x.T = r.Perm(max(1, old.Most) + r.Intn(4))
		x.A, x.T = len(x.T), x.T[:max(1, old.Most)]
	case 6:
		x.A, x.To = 2+r.Intn(1<<r.Intn(10)), r.Intn(20)
	case 7:
		x.Place = r.Intn(len(f.Fields))
	case 8:
		x.To = r.Intn(20)
	}
	return x
}

// someSteps returns random steps that can be applied to a schema, and the resulting schema.
func someSteps(r *rand.Rand, s api.Schema) ([]api.Step, api.Schema) {
	var l []api.Step
	for range r.Intn(16) {
		x := someStep(r, s)
		if next, e := typing.On(s, x); e == api.OK {
			l, s = append(l, x), next
		}
	}
	return l, s
}

// someItems returns items of random records of a schema, whose numbers are few.
func someItems(r *rand.Rand, s api.Schema) []api.Item {
	var l []api.Item
	for _, f := range s.Forms {
		for id := range 6 {
			if r.Intn(2) == 0 {
				continue
			}
			x := api.Record{Form: f.ID}
			for _, y := range f.Fields {
				x.Vals = append(x.Vals, someValue(r, y))
			}
			b, _ := record.Lay(f, x)
			l = append(l, main(f.ID, id, string(b)))
		}
	}
	return l
}

// changed returns items with one change.
func changed(r *rand.Rand, items []api.Item, steps int) []api.Item {
	l := slices.Clone(items)
	i := r.Intn(len(l) + 1)
	if r.Intn(6) == 0 {
		return slices.Insert(l, i, side(r.Intn(steps+1), r.Intn(4), r.Intn(6), "\x00"))
	}
	if i == len(l) {
		return l
	}
	b := []byte(l[i].Data)
	switch r.Intn(4) {
	case 0:
		return slices.Delete(l, i, i+1)
	case 1:
		b = append(b, 0)
	case 2:
		b = b[:r.Intn(len(b)+1)]
	case 3:
		if len(b) > 0 {
			b[r.Intn(len(b))] ^= 1 << r.Intn(8)
		}
	}
	l[i].Data = string(b)
	return l
}

// P20.1 to P20.5: random steps, records on and back, and back after changes, against the chapter.
func TestRandom(t *testing.T) {
	r := rand.New(rand.NewSource(201))
	met := map[api.Errno]int{}
	lost, regained := 0, 0
	for range 3000 {
		s := version(1 + r.Intn(65535))
		for id := range 3 {
			if r.Intn(4) > 0 {
				s.Forms = append(s.Forms, someForm(r, id))
			}
		}
		l, after := someSteps(r, s)
		items := someItems(r, s)
		on, e := checkOn(t, s, l, items)
		if e != api.OK {
			t.Fatalf("On(%v, %v, %s) = %d", s, l, told(items), e)
		}
		checkAlone(t, s, l, on)
		checkOn(t, s, l, changed(r, items, len(l)))
		for _, back := range [][]api.Item{changed(r, on, len(l)), changed(r, changed(r, on, len(l)), len(l)), ordered(append(someItems(r, after), on[min(len(on), 3*r.Intn(4)):]...)), someItems(r, after)} {
			got, e := checkBack(t, s, l, back)
			if Fits(after, back) != fitting(after, back) || e == api.OK && !Fits(s, got) {
				t.Fatalf("Back(%v, %v, %s) = %s, %d", s, l, told(back), told(got), e)
			}
			if fitting(after, back) {
				checkAlone(t, s, l, back)
			}
			met[e]++
		}
		if len(on) > len(items) {
			lost++
		}
		if len(on) > 0 && len(items) > len(someMains(on)) {
			regained++
		}
	}
	if met[api.OK] < 2000 || met[api.ErrConv] < 1500 || met[api.ErrDamage] < 1500 || lost < 500 || regained < 500 {
		t.Errorf("only %v; %d with lost data, %d with records that are deleted", met, lost, regained)
	}
}

// someMains returns the items of records.
func someMains(items []api.Item) []api.Item {
	return slices.DeleteFunc(slices.Clone(items), func(x api.Item) bool { return x.Key >= 1<<24 })
}

// R1: numbers of any size, and keys of all kinds.
func TestOdd(t *testing.T) {
	s, items := device()
	keys := []api.Item{{}, {Key: math.MaxUint32}, {Key: 1 << 31}, {Key: 1<<24 - 1}, {Key: 201 << 16, Data: "\x01"}, {Key: 1 << 24}, {Key: 200<<24 + 3<<16}, {Key: 201 << 24}, {Key: 255<<24 + 3<<16, Data: "\x01"}}
	for _, n := range []int{math.MinInt, math.MinInt + 1, -1, 0, 1, 7, 10, 21, 1 << 32, math.MaxInt} {
		f := whole(n, n, n)
		f.Kind, f.Most = n, n
		for op := -1; op < 33; op++ {
			odd := api.Step{Op: op, Form: n, Field: n, Place: n, To: n, A: n, B: n, F: f, V: num(n), T: []int{n, n}, Fields: fields(f, f)}
			for _, bad := range []api.Schema{{}, s, version(n, form(n, f, f)), version(1, form(n)), version(n)} {
				for _, x := range []api.Step{odd, {Op: op, Form: n, Field: n, To: n}, {Op: op, Form: n}} {
					for _, l := range [][]api.Item{nil, keys[:1], keys[1:2], items} {
						checkOn(t, bad, steps(x), l)
						checkBack(t, bad, steps(x), l)
					}
				}
			}
		}
	}
	for i, x := range keys {
		for _, y := range keys[i:] {
			for _, l := range [][]api.Step{nil, moves(1), moves(199), append(moves(199), api.Step{Op: 10, Form: 3}), append(moves(2), api.Step{Op: 10, Form: 3})} {
				checkOn(t, s, l, list(x, y))
				checkOn(t, s, l, list(y, x))
				checkBack(t, s, l, list(x, y))
				checkBack(t, s, l, list(y, x))
			}
			if Fits(s, list(x, y)) != fitting(s, list(x, y)) || Fits(s, list(y, x)) != fitting(s, list(y, x)) {
				t.Errorf("%s", told(list(x, y)))
			}
		}
	}
}

// roomy returns copies with spare capacity behind all lists, and a function that reports whether neither they nor the capacity have been modified.
func roomy(s api.Schema, l []api.Step, items []api.Item) (api.Schema, []api.Step, []api.Item, func() bool) {
	s.Forms = append(make([]api.Form, 0, len(s.Forms)+3), s.Forms...)
	for i, f := range s.Forms {
		s.Forms[i].Fields = append(make([]api.Field, 0, 12), f.Fields...)
	}
	l = append(make([]api.Step, 0, len(l)+3), l...)
	for i, x := range l {
		l[i].T, l[i].Fields = append(make([]int, 0, 9), x.T...), append(make([]api.Field, 0, 9), x.Fields...)
	}
	items = append(make([]api.Item, 0, 2*len(items)+9), items...)
	now := func() string {
		all := fmt.Sprint(s.Version, s.Forms[:cap(s.Forms)], l[:cap(l)], items[:cap(items)])
		for _, f := range s.Forms {
			all += fmt.Sprint(f.Fields[:cap(f.Fields)])
		}
		for _, x := range l {
			all += fmt.Sprint(x.T[:cap(x.T)], x.Fields[:cap(x.Fields)])
		}
		return all
	}
	first := now()
	return s, l, items, func() bool { return now() == first }
}

// R3: neither arguments nor their spare capacity are modified, and results share no memory with them or with other results.
func TestMemory(t *testing.T) {
	s, items := device()
	chains := [][]api.Step{nil, moves(1),
		{{Op: 2, Form: 0, Field: 2}, {Op: 10, Form: 7}, {Op: 9, Form: 7, Fields: fields(boolean(1))}, {Op: 10, Form: 0}},
		{{Op: 5, Form: 7, Field: 1, A: 3, T: []int{2, 0, 1}}, {Op: 1, Form: 3, Place: 1, F: boolean(2)}}}
	for _, l := range chains {
		on, _ := On(s, l, items)
		s, l, items, same := roomy(s, l, items)
		_, _, on, still := roomy(s, l, on)
		a, _ := On(s, l, items)
		b, _ := On(s, l, items)
		clear(a[:cap(a)])
		c, _ := Back(s, l, on)
		d, _ := Back(s, l, on)
		clear(c[:cap(c)])
		Fits(s, items)
		if !same() || !still() {
			t.Errorf("%v: an argument was modified", l)
		}
		want := slices.Clone(on)
		clear(on)
		clear(items)
		_, first := device()
		if !slices.Equal(b, want) || !slices.Equal(d, first) {
			t.Errorf("%v: a result shares memory", l)
		}
	}
}

// R3: what is behind the end of a slice does not belong to it.
func TestEnds(t *testing.T) {
	s, items := device()
	l := steps(api.Step{Op: 2, Form: 0, Field: 2}, api.Step{Op: 10, Form: 3}, api.Step{Op: 10, Form: 3})
	if got, e := On(s, l[:2], items[:4]); e != api.OK || told(got) != told(list(main(0, 0, "\x2a"), main(0, 1, "\x00"), main(0, 65535, "\x63"), side(0, 0, 0, "\x02hi"), side(0, 0, 1, "\x00"), side(0, 0, 65535, "\x04four"), side(1, 3, 0, "\x01"))) {
		t.Errorf("%s, %d", told(got), e)
	}
	if got, e := Back(s, l[:1], list(main(0, 0, "\x2a"), side(1, 3, 0, "\x01"))); e != api.ErrDamage || len(got) != 0 {
		t.Errorf("a step behind the end: %s, %d", told(got), e)
	}
	back := list(main(0, 0, "\x2a"), side(0, 0, 0, "\x02hi"))
	if got, e := Back(s, l[:1], back[:1]); e != api.OK || told(got) != told(list(main(0, 0, "\x2a\x00"))) {
		t.Errorf("an item behind the end: %s, %d", told(got), e)
	}
	s.Forms = s.Forms[:1]
	if Fits(s, items[:4]) || !Fits(s, items[:3]) {
		t.Errorf("a form behind the end")
	}
}
