package step

import (
	"bytes"
	"encoding/binary"
	"math"
	"math/rand"
	"slices"
	"strings"
	"testing"

	"instar/api"
)

func whole(id, lo, hi int) api.Field { return api.Field{ID: id, Kind: 1, Lo: lo, Hi: hi} }

func boolean(id int) api.Field { return api.Field{ID: id, Kind: 2} }

func pick(id, most int) api.Field { return api.Field{ID: id, Kind: 3, Most: most} }

func text(id, most int) api.Field { return api.Field{ID: id, Kind: 4, Most: most} }

func num(n int) api.Value { return api.Value{N: n} }

func str(s string) api.Value { return api.Value{S: s} }

// upTo returns the numbers from 0 to n - 1.
func upTo(n int) []int {
	l := []int{}
	for i := range n {
		l = append(l, i)
	}
	return l
}

// booleans returns n KBool fields with IDs from first on.
func booleans(n, first int) []api.Field {
	l := []api.Field{}
	for i := range n {
		l = append(l, boolean(first+i))
	}
	return l
}

// near returns the numbers around all bounds of the chapter, and numbers that an overflow, or a conversion to fewer bits, could bring into bounds.
func near() []int {
	l := []int{math.MinInt, math.MinInt + 1, math.MinInt32, 1 - 1<<32, -256, -255, 1<<16 + 1, math.MaxUint32, 1<<32 + 1, 1 << 62, math.MaxInt - 1, math.MaxInt}
	for _, n := range []int{0, 8, 11, 20, 32, 64, 200, 255, 1000, 1 << 20, 1 << 40} {
		l = append(l, n-2, n-1, n, n+1, n+2, -n-1, -n, 1-n)
	}
	slices.Sort(l)
	return slices.Compact(l)
}

// fits reports whether a field is valid and a value belongs to it, as chapter 12 defines them.
func fits(x api.Field, v api.Value) bool {
	if x.ID < 0 || x.ID > 255 {
		return false
	}
	lo, hi, long := x.Lo, x.Hi, 0
	switch x.Kind {
	case 1:
		if x.Lo < -1<<40 || x.Hi > 1<<40 || x.Most != 0 {
			return false
		}
	case 2:
		if x != boolean(x.ID) {
			return false
		}
		hi = 1
	case 3:
		if x != pick(x.ID, x.Most) || x.Most < 1 || x.Most > 1000 {
			return false
		}
		hi = x.Most - 1
	case 4:
		if x != text(x.ID, x.Most) || x.Most < 0 || x.Most > 32 {
			return false
		}
		long = x.Most
	default:
		return false
	}
	return lo <= v.N && v.N <= hi && len(v.S) <= long
}

// validField reports whether a field is valid: whether its least value belongs to it.
func validField(x api.Field) bool { return fits(x, num(x.Lo)) }

// validForm reports whether a form is valid, as chapter 13 defines it.
func validForm(id int, fields []api.Field) bool {
	total, ids := 0, map[int]bool{}
	for _, x := range fields {
		if !validField(x) || ids[x.ID] {
			return false
		}
		ids[x.ID] = true
		top := x.Hi - x.Lo
		switch x.Kind {
		case 2:
			top = 1
		case 3:
			top = x.Most - 1
		case 4:
			total, top = total+1+x.Most, 0
		}
		for ; top > 0; top /= 256 {
			total++
		}
	}
	return id >= 0 && id <= 200 && len(fields) >= 1 && len(fields) <= 8 && total <= 64
}

// layout returns a letter for each member that steps with an Op use, in the order of their encoding: m for Form, d for Field, p for Place, a for A on its own, s for A and B, t for To, and L for Fields.
func layout(op int) string {
	switch op {
	case 1, 22:
		return "mpFV"
	case 2:
		return "mdV"
	case 3, 23:
		return "mdF"
	case 4:
		return "mds"
	case 24:
		return "mdsF"
	case 5:
		return "mdaT"
	case 25:
		return "mdT"
	case 6:
		return "mdat"
	case 26:
		return "mdatF"
	case 7, 27:
		return "mdp"
	case 8, 28:
		return "mdt"
	case 9, 30:
		return "mL"
	case 10, 29:
		return "m"
	case 21:
		return "md"
	}
	return ""
}

// onlyUsed reports whether all members that a step does not use are zero.
func onlyUsed(t api.Step) bool {
	free := func(letters string, zero bool) bool { return zero || strings.ContainsAny(layout(t.Op), letters) }
	return free("d", t.Field == 0) && free("p", t.Place == 0) && free("as", t.A == 0) && free("s", t.B == 0) && free("t", t.To == 0) &&
		free("F", t.F == api.Field{}) && free("V", t.V == api.Value{}) && free("T", len(t.T) == 0) && free("L", len(t.Fields) == 0)
}

// validTable reports whether a table has 1 to 64 distinct numbers below a limit.
func validTable(l []int, limit int) bool {
	seen := map[int]bool{}
	for _, n := range l {
		if n < 0 || n >= limit || seen[n] {
			return false
		}
		seen[n] = true
	}
	return len(l) >= 1 && len(l) <= 64
}

// valid reports whether a step is valid, as the chapter defines it.
func valid(t api.Step) bool {
	uses := layout(t.Op)
	if uses == "" || !onlyUsed(t) {
		return false
	}
	limit := 1000
	if t.Op == 5 {
		limit = t.A
	}
	right := true
	for _, c := range uses {
		switch c {
		case 'm':
			right = right && t.Form >= 0 && t.Form <= 200
		case 'd':
			right = right && t.Field >= 0 && t.Field <= 255
		case 'p':
			right = right && t.Place >= 0 && t.Place <= 8
		case 't':
			right = right && t.To >= 0 && t.To <= 255 && t.To != t.Field
		case 's':
			right = right && t.A >= -1048576 && t.A <= 1048576 && t.A != 0 && t.B >= -1<<40 && t.B <= 1<<40
		case 'a':
			right = right && (t.Op == 5 && t.A >= 1 && t.A <= 1000 || t.Op != 5 && t.A >= 2 && t.A <= 1048576)
		case 'F':
			right = right && validField(t.F) && (t.Op == 1 || t.Op == 22 || t.F.ID == t.Field)
		case 'V':
			right = right && (fits(t.F, t.V) || t.Op == 2 && t.V.N >= -1<<40 && t.V.N <= 1<<40 && len(t.V.S) <= 32)
		case 'T':
			right = right && validTable(t.T, limit)
		case 'L':
			right = right && validForm(t.Form, t.Fields)
		}
	}
	return right
}

// equal reports whether two steps are equal, member by member.
func equal(a, b api.Step) bool {
	if len(a.T) != len(b.T) || len(a.Fields) != len(b.Fields) {
		return false
	}
	for i := range a.T {
		if a.T[i] != b.T[i] {
			return false
		}
	}
	for i := range a.Fields {
		if a.Fields[i] != b.Fields[i] {
			return false
		}
	}
	return a.Op == b.Op && a.Form == b.Form && a.Field == b.Field && a.Place == b.Place && a.To == b.To && a.A == b.A && a.B == b.B && a.F == b.F && a.V == b.V
}

func equalLists(a, b []api.Step) bool { return slices.EqualFunc(a, b, equal) }

// clone returns a copy of a step that shares no list with it.
func clone(t api.Step) api.Step {
	t.T, t.Fields = append([]int{}, t.T...), append([]api.Field{}, t.Fields...)
	return t
}

// encoded returns the encoding of a list of steps, of which no counted number is negative, as the chapter describes it.
func encoded(l ...api.Step) []byte {
	b := binary.AppendUvarint(nil, uint64(len(l)))
	count := func(n int) { b = binary.AppendUvarint(b, uint64(n)) }
	signed := func(n int) { b = binary.AppendVarint(b, int64(n)) }
	field := func(x api.Field) {
		count(x.ID)
		count(x.Kind)
		signed(x.Lo)
		signed(x.Hi)
		count(x.Most)
	}
	for _, t := range l {
		count(t.Op)
		for _, c := range layout(t.Op) {
			switch c {
			case 'm':
				count(t.Form)
			case 'd':
				count(t.Field)
			case 'p':
				count(t.Place)
			case 't':
				count(t.To)
			case 'a':
				count(t.A)
			case 's':
				signed(t.A)
				signed(t.B)
			case 'F':
				field(t.F)
			case 'V':
				signed(t.V.N)
				count(len(t.V.S))
				b = append(b, t.V.S...)
			case 'T':
				count(len(t.T))
				for _, n := range t.T {
					count(n)
				}
			case 'L':
				count(len(t.Fields))
				for _, x := range t.Fields {
					field(x)
				}
			}
		}
	}
	return b
}

// reader decodes what chapter 5 defines, and stops at the first error.
type reader struct {
	b   []byte
	bad api.Errno
}

// varint reads the shortest varint of a number of 64 bits.
func (r *reader) varint() uint64 {
	if r.bad != api.OK {
		return 0
	}
	x, n := binary.Uvarint(r.b)
	switch {
	case n > 1 && r.b[n-1] == 0, n < 0, n == 0 && len(r.b) >= 10:
		r.bad = api.ErrForm
		return 0
	case n == 0:
		r.bad = api.ErrShort
		return 0
	}
	r.b = r.b[n:]
	return x
}

func (r *reader) count(most int) int {
	x := r.varint()
	switch {
	case x > math.MaxInt:
		r.bad = api.ErrForm
	case x > uint64(most):
		r.bad = api.ErrMany
	default:
		return int(x)
	}
	return 0
}

func (r *reader) num() int {
	x := r.varint()
	if x%2 == 1 {
		return -int(x/2) - 1
	}
	return int(x / 2)
}

func (r *reader) text(most int) string {
	n := r.count(most)
	if n > len(r.b) {
		r.bad = api.ErrShort
	}
	if r.bad != api.OK {
		return ""
	}
	s := string(r.b[:n])
	r.b = r.b[n:]
	return s
}

func (r *reader) field() api.Field {
	x := api.Field{ID: r.count(255)}
	x.Kind = r.count(4)
	x.Lo = r.num()
	x.Hi = r.num()
	x.Most = r.count(1000)
	return x
}

func (r *reader) step() api.Step {
	t := api.Step{Op: r.count(30)}
	for _, c := range layout(t.Op) {
		switch c {
		case 'm':
			t.Form = r.count(200)
		case 'd':
			t.Field = r.count(255)
		case 'p':
			t.Place = r.count(8)
		case 't':
			t.To = r.count(255)
		case 'a':
			t.A = r.count(1048576)
		case 's':
			t.A = r.num()
			t.B = r.num()
		case 'F':
			t.F = r.field()
		case 'V':
			t.V.N = r.num()
			t.V.S = r.text(32)
		case 'T':
			for n := r.count(64); n > 0; n-- {
				t.T = append(t.T, r.count(1000))
			}
		case 'L':
			for n := r.count(8); n > 0; n-- {
				t.Fields = append(t.Fields, r.field())
			}
		}
	}
	return t
}

// decoded returns what Parse must return.
func decoded(b []byte) ([]api.Step, api.Errno) {
	r := &reader{b: b}
	l := []api.Step{}
	for n := r.count(40); n > 0; n-- {
		l = append(l, r.step())
	}
	switch {
	case r.bad != api.OK:
		return nil, r.bad
	case len(r.b) > 0:
		return nil, api.ErrRest
	}
	for _, t := range l {
		if !valid(t) {
			return nil, api.ErrArg
		}
	}
	return l, api.OK
}

// rights returns valid steps with each Op, at their bounds and between them.
func rights() []api.Step {
	long := strings.Repeat("\xff", 32)
	l := []api.Step{}
	for _, op := range []int{1, 22} {
		l = append(l, api.Step{Op: op, F: boolean(0)}, api.Step{Op: op, Form: 200, Place: 8, F: boolean(255), V: num(1)}, api.Step{Op: op, Form: 7, Place: 3, F: whole(9, -5, 300), V: num(-5)},
			api.Step{Op: op, F: whole(1, -1<<40, 1<<40), V: num(1 << 40)}, api.Step{Op: op, F: pick(1, 1000), V: num(999)}, api.Step{Op: op, F: text(1, 32), V: str(long)}, api.Step{Op: op, F: text(1, 0)})
	}
	for _, op := range []int{3, 23} {
		l = append(l, api.Step{Op: op, F: boolean(0)}, api.Step{Op: op, Form: 200, Field: 255, F: whole(255, -1<<40, 1<<40)}, api.Step{Op: op, Form: 7, Field: 9, F: text(9, 32)}, api.Step{Op: op, Field: 1, F: pick(1, 1000)})
	}
	for _, op := range []int{7, 27} {
		l = append(l, api.Step{Op: op}, api.Step{Op: op, Form: 200, Field: 255, Place: 8}, api.Step{Op: op, Form: 7, Field: 9, Place: 3})
	}
	for _, op := range []int{8, 28} {
		l = append(l, api.Step{Op: op, To: 1}, api.Step{Op: op, Field: 1}, api.Step{Op: op, Form: 200, Field: 255, To: 254}, api.Step{Op: op, Form: 7, Field: 9, To: 255})
	}
	for _, op := range []int{9, 30} {
		l = append(l, api.Step{Op: op, Fields: []api.Field{boolean(0)}}, api.Step{Op: op, Form: 200, Fields: booleans(8, 248)}, api.Step{Op: op, Form: 7, Fields: []api.Field{text(2, 32), whole(1, -1<<40, 1<<40), text(5, 24)}},
			api.Step{Op: op, Form: 7, Fields: []api.Field{whole(10, -9, 5), boolean(11), pick(12, 300), text(13, 3)}})
	}
	for _, op := range []int{10, 29} {
		l = append(l, api.Step{Op: op}, api.Step{Op: op, Form: 7}, api.Step{Op: op, Form: 200})
	}
	return append(l,
		api.Step{Op: 21}, api.Step{Op: 21, Form: 7, Field: 9}, api.Step{Op: 21, Form: 200, Field: 255},
		api.Step{Op: 2}, api.Step{Op: 2, Form: 200, Field: 255, V: api.Value{N: 1 << 40, S: long}}, api.Step{Op: 2, Form: 7, Field: 9, V: api.Value{N: -1 << 40, S: "ab"}},
		api.Step{Op: 4, A: 1}, api.Step{Op: 4, Form: 200, Field: 255, A: 1 << 20, B: 1 << 40}, api.Step{Op: 4, Form: 7, Field: 9, A: -1 << 20, B: -1 << 40}, api.Step{Op: 4, Field: 3, A: -1},
		api.Step{Op: 24, A: 1, F: boolean(0)}, api.Step{Op: 24, Form: 200, Field: 255, A: 1 << 20, B: 1 << 40, F: whole(255, 0, 9)}, api.Step{Op: 24, Form: 7, Field: 9, A: -1 << 20, B: -1 << 40, F: whole(9, -1<<40, 3)},
		api.Step{Op: 5, A: 1, T: []int{0}}, api.Step{Op: 5, Form: 200, Field: 255, A: 1000, T: []int{999, 0, 500}}, api.Step{Op: 5, Form: 7, Field: 9, A: 64, T: upTo(64)}, api.Step{Op: 5, Field: 1, A: 3, T: []int{2, 0}},
		api.Step{Op: 25, T: []int{0}}, api.Step{Op: 25, Form: 200, Field: 255, T: []int{999, 0, 500}}, api.Step{Op: 25, Form: 7, Field: 9, T: upTo(64)}, api.Step{Op: 25, Field: 1, T: []int{2, 0}},
		api.Step{Op: 6, A: 2, To: 1}, api.Step{Op: 6, Form: 200, Field: 255, A: 1 << 20, To: 0}, api.Step{Op: 6, Form: 7, Field: 9, A: 10, To: 255},
		api.Step{Op: 26, A: 2, To: 1, F: boolean(0)}, api.Step{Op: 26, Form: 200, Field: 255, A: 1 << 20, To: 0, F: whole(255, 0, 1<<40)}, api.Step{Op: 26, Form: 7, Field: 9, A: 10, To: 255, F: whole(9, 0, 99)},
	)
}

// changed returns the steps that differ from t in one member: in one number, in a string, or in one element of a list.
func changed(t api.Step) []api.Step {
	l := []api.Step{}
	add := func(change func(c *api.Step)) {
		c := clone(t)
		change(&c)
		if !equal(c, t) {
			l = append(l, c)
		}
	}
	for _, n := range near() {
		for i := range 13 {
			add(func(c *api.Step) {
				*[]*int{&c.Op, &c.Form, &c.Field, &c.Place, &c.To, &c.A, &c.B, &c.F.ID, &c.F.Kind, &c.F.Lo, &c.F.Hi, &c.F.Most, &c.V.N}[i] = n
			})
		}
		add(func(c *api.Step) { c.T = append(c.T, n) })
		add(func(c *api.Step) { c.T = append([]int{n}, c.T...) })
		add(func(c *api.Step) { c.Fields = append(c.Fields, boolean(n)) })
		for i := range t.T {
			add(func(c *api.Step) { c.T[i] = n })
		}
		for i := range t.Fields {
			for k := range 5 {
				add(func(c *api.Step) {
					x := &c.Fields[i]
					*[]*int{&x.ID, &x.Kind, &x.Lo, &x.Hi, &x.Most}[k] = n
				})
			}
		}
	}
	for _, n := range []int{0, 1, 31, 32, 33, 100} {
		add(func(c *api.Step) { c.V.S = strings.Repeat("z", n) })
	}
	add(func(c *api.Step) { c.Fields = append(c.Fields, text(77, 32)) })
	for _, n := range []int{0, 1, 2, 63, 64, 65, 1000} {
		add(func(c *api.Step) { c.T = upTo(n) })
		add(func(c *api.Step) { c.T = slices.Repeat([]int{0}, n) })
	}
	for _, n := range []int{0, 1, 7, 8, 9, 100} {
		add(func(c *api.Step) { c.Fields = booleans(n, 3) })
		add(func(c *api.Step) { c.Fields = slices.Repeat([]api.Field{pick(3, 5)}, n) })
	}
	for i := range t.T {
		add(func(c *api.Step) { c.T = slices.Delete(c.T, i, i+1) })
		add(func(c *api.Step) { c.T[0], c.T[i] = c.T[i], c.T[0] })
	}
	for i := range t.Fields {
		add(func(c *api.Step) { c.Fields = slices.Delete(c.Fields, i, i+1) })
		add(func(c *api.Step) { c.Fields[0], c.Fields[i] = c.Fields[i], c.Fields[0] })
	}
	return l
}

// wrongs returns invalid steps: one for each condition that the chapter names, at its bounds.
func wrongs() []api.Step {
	nine, past := whole(9, 0, 9), 1<<40+1
	l := []api.Step{{}, {Op: 11}, {Op: 20}, {Op: 31}, {Op: -1}, {Op: 256 + 10}, {Op: 1<<32 + 10},
		{Op: 10, Form: 201}, {Op: 10, Form: -1}, {Op: 29, Form: 256}, {Op: 21, Field: 256}, {Op: 21, Field: -1}, {Op: 7, Place: 9}, {Op: 27, Place: -1}, {Op: 1, Place: 9, F: nine},
		{Op: 8, To: 256}, {Op: 28, Field: 1, To: -1}, {Op: 8}, {Op: 28, Field: 9, To: 9}, {Op: 6, Field: 9, To: 9, A: 2}, {Op: 26, Field: 9, To: 9, A: 2, F: nine},
		{Op: 1}, {Op: 1, F: whole(9, 1, 0), V: num(1)}, {Op: 22, F: boolean(256)}, {Op: 1, F: nine, V: num(10)}, {Op: 22, F: nine, V: num(-1)}, {Op: 1, F: nine, V: str("a")}, {Op: 22, F: text(9, 2), V: str("abc")}, {Op: 1, F: text(9, 2), V: num(1)},
		{Op: 3, Field: 9}, {Op: 3, Field: 8, F: nine}, {Op: 23, Field: 10, F: nine}, {Op: 23, Field: 9, F: pick(9, 1001)}, {Op: 24, Field: 8, A: 1, F: nine}, {Op: 24, Field: 9, A: 1, F: pick(9, 0)}, {Op: 26, Field: 8, A: 2, To: 1, F: nine}, {Op: 26, Field: 9, A: 2, To: 1, F: text(9, 33)},
		{Op: 2, V: num(past)}, {Op: 2, V: num(-past)}, {Op: 2, V: str(strings.Repeat("a", 33))},
		{Op: 4}, {Op: 4, A: 1<<20 + 1}, {Op: 4, A: -1<<20 - 1}, {Op: 4, A: 1, B: past}, {Op: 4, A: 1, B: -past}, {Op: 24, F: boolean(0)}, {Op: 24, A: 1<<20 + 1, F: boolean(0)}, {Op: 24, A: -1<<20 - 1, F: boolean(0)}, {Op: 24, A: 1, B: past, F: boolean(0)},
		{Op: 5, A: 0, T: []int{0}}, {Op: 5, A: 1001, T: []int{0}}, {Op: 5, A: -1, T: []int{0}}, {Op: 6, A: 1, To: 1}, {Op: 6, A: 1<<20 + 1, To: 1}, {Op: 6, A: -2, To: 1}, {Op: 26, A: 1, To: 1, F: boolean(0)}, {Op: 26, A: 1<<20 + 1, To: 1, F: boolean(0)},
		{Op: 5, A: 9}, {Op: 5, A: 9, T: []int{9}}, {Op: 5, A: 9, T: []int{-1}}, {Op: 5, A: 9, T: []int{3, 4, 3}}, {Op: 5, A: 1000, T: upTo(65)}, {Op: 5, A: 1000, T: []int{1000}},
		{Op: 25}, {Op: 25, T: []int{1000}}, {Op: 25, T: []int{-1}}, {Op: 25, T: []int{999, 5, 999}}, {Op: 25, T: upTo(65)}, {Op: 25, T: upTo(5000)},
		{Op: 9}, {Op: 30, Form: 201, Fields: []api.Field{boolean(1)}}, {Op: 9, Fields: booleans(9, 0)}, {Op: 30, Fields: []api.Field{boolean(1), boolean(1)}}, {Op: 9, Fields: []api.Field{text(1, 32), text(2, 31)}}, {Op: 30, Fields: []api.Field{boolean(256)}}}
	// One member that a valid step does not use.
	for _, t := range rights() {
		for c, change := range map[string]func(t *api.Step){
			"d": func(t *api.Step) { t.Field = 1 }, "p": func(t *api.Step) { t.Place = 1 }, "as": func(t *api.Step) { t.A = 2 }, "s": func(t *api.Step) { t.B = 1 }, "t": func(t *api.Step) { t.To = 100 },
			"F": func(t *api.Step) { t.F = boolean(t.Field) }, "V": func(t *api.Step) { t.V.N = 1 }, "VV": func(t *api.Step) { t.V.S = "a" }, "T": func(t *api.Step) { t.T = []int{0} }, "L": func(t *api.Step) { t.Fields = booleans(1, 0) },
		} {
			if !strings.ContainsAny(layout(t.Op), c) {
				x := clone(t)
				change(&x)
				l = append(l, x)
			}
		}
	}
	return l
}

// P15.1: valid steps, those that are not, and all that differ from a valid one in one member.
func TestRight(t *testing.T) {
	for _, x := range rights() {
		if !valid(x) || !Right(x) || !Right(clone(x)) {
			t.Errorf("Right(%v) is false", x)
		}
	}
	for _, x := range wrongs() {
		if valid(x) || Right(x) {
			t.Errorf("Right(%v) is true", x)
		}
	}
	good := 0
	for _, x := range rights() {
		for _, c := range changed(x) {
			if Right(c) != valid(c) {
				t.Errorf("Right(%v) = %v", c, !valid(c))
			}
			if valid(c) {
				good++
			}
		}
	}
	if good < 3000 {
		t.Errorf("only %d changed steps are valid", good)
	}
}

// P15.1: which Ops exist, and which members they use, one set at a time.
func TestOps(t *testing.T) {
	for op := -300; op <= 300; op++ {
		some := Right(api.Step{Op: op}) || Right(api.Step{Op: op, To: 1}) || Right(api.Step{Op: op, F: boolean(0)}) || Right(api.Step{Op: op, A: 2}) || Right(api.Step{Op: op, A: 2, F: boolean(0)}) ||
			Right(api.Step{Op: op, T: []int{0}}) || Right(api.Step{Op: op, A: 2, T: []int{0}}) || Right(api.Step{Op: op, A: 2, To: 1}) || Right(api.Step{Op: op, A: 2, To: 1, F: boolean(0)}) || Right(api.Step{Op: op, Fields: booleans(1, 0)})
		if some != (op >= 1 && op <= 10 || op >= 21 && op <= 30) {
			t.Errorf("Op %d", op)
		}
	}
	if Most != 64 {
		t.Errorf("Most = %d", Most)
	}
}

// P15.1: steps, valid or not, are the same as their copies, and differ from all that are changed in one member.
func TestSame(t *testing.T) {
	l := append(rights(), api.Step{}, api.Step{Op: -1, Form: math.MinInt, Field: math.MaxInt, Place: 5, To: 6, A: 7, B: 8, F: api.Field{ID: 1, Kind: 2, Lo: 3, Hi: 4, Most: 5}, V: api.Value{N: 9, S: "abc"}, T: []int{5, 5, -1}, Fields: []api.Field{{}, {ID: 1, Kind: 9, Lo: 8, Hi: 7, Most: 6}}})
	for _, a := range l {
		if !Same(a, a) || !Same(a, clone(a)) || !Same(clone(a), a) {
			t.Errorf("Same(%v, its copy) is false", a)
		}
		for _, b := range changed(a) {
			if Same(a, b) || Same(b, a) {
				t.Errorf("Same(%v, %v) is true", a, b)
			}
		}
		for _, b := range l {
			if Same(a, b) != equal(a, b) {
				t.Errorf("Same(%v, %v) = %v", a, b, !equal(a, b))
			}
		}
	}
	// The same numbers in other members.
	one := []api.Step{{Op: 1}, {Form: 1}, {Field: 1}, {Place: 1}, {To: 1}, {A: 1}, {B: 1}, {F: api.Field{ID: 1}}, {F: api.Field{Kind: 1}}, {F: api.Field{Lo: 1}}, {F: api.Field{Hi: 1}}, {F: api.Field{Most: 1}}, {V: num(1)}, {T: []int{1}}, {T: []int{0}}, {Fields: []api.Field{{}}}}
	for i, a := range one {
		for k, b := range one {
			if Same(a, b) != (i == k) {
				t.Errorf("Same(%v, %v) = %v", a, b, i != k)
			}
		}
	}
	empty := api.Step{Op: 10, T: []int{}, Fields: []api.Field{}}
	if !Same(empty, api.Step{Op: 10}) || !Same(api.Step{Op: 10}, empty) || !Right(empty) {
		t.Error("an empty list is not the same as nil")
	}
}

// samples returns lists with their encodings, byte for byte, of every Op.
func samples() map[string][]api.Step {
	return map[string][]api.Step{
		"\x00":                 {},
		"\x01\x0a\x07":         {{Op: 10, Form: 7}},
		"\x01\x1d\xc8\x01":     {{Op: 29, Form: 200}},
		"\x01\x15\x07\xff\x01": {{Op: 21, Form: 7, Field: 255}},
		"\x01\x01\x07\x02\x03\x01\x01\x12\x00\x08\x00":             {{Op: 1, Form: 7, Place: 2, F: whole(3, -1, 9), V: num(4)}},
		"\x01\x16\x07\x08\x03\x04\x00\x00\x03\x00\x02ab":           {{Op: 22, Form: 7, Place: 8, F: text(3, 3), V: str("ab")}},
		"\x01\x01\x07\x02\x03\x03\x00\x00\xe8\x07\xce\x0f\x00":     {{Op: 1, Form: 7, Place: 2, F: pick(3, 1000), V: num(999)}},
		"\x01\x02\x07\x03\x07\x02ab":                               {{Op: 2, Form: 7, Field: 3, V: api.Value{N: -4, S: "ab"}}},
		"\x01\x03\x07\x03\x03\x02\x00\x00\x00":                     {{Op: 3, Form: 7, Field: 3, F: boolean(3)}},
		"\x01\x17\x07\x03\x03\x01\x00\xd8\x04\x00":                 {{Op: 23, Form: 7, Field: 3, F: whole(3, 0, 300)}},
		"\x01\x04\x07\x03\x03\x0a":                                 {{Op: 4, Form: 7, Field: 3, A: -2, B: 5}},
		"\x01\x18\x07\x03\x04\x09\x03\x01\x02\x04\x00":             {{Op: 24, Form: 7, Field: 3, A: 2, B: -5, F: whole(3, 1, 2)}},
		"\x01\x05\x07\x03\x05\x02\x04\x00":                         {{Op: 5, Form: 7, Field: 3, A: 5, T: []int{4, 0}}},
		"\x01\x19\x07\x03\x03\x04\x00\xe7\x07":                     {{Op: 25, Form: 7, Field: 3, T: []int{4, 0, 999}}},
		"\x01\x06\x07\x03\xac\x02\x04":                             {{Op: 6, Form: 7, Field: 3, A: 300, To: 4}},
		"\x01\x1a\x07\x03\x80\x80\x40\x04\x03\x01\x00\x12\x00":     {{Op: 26, Form: 7, Field: 3, A: 1 << 20, To: 4, F: whole(3, 0, 9)}},
		"\x01\x07\x07\x03\x08":                                     {{Op: 7, Form: 7, Field: 3, Place: 8}},
		"\x01\x1b\x07\x03\x00":                                     {{Op: 27, Form: 7, Field: 3}},
		"\x01\x08\x07\x03\x04":                                     {{Op: 8, Form: 7, Field: 3, To: 4}},
		"\x01\x1c\x07\x03\x04":                                     {{Op: 28, Form: 7, Field: 3, To: 4}},
		"\x01\x09\x07\x02\x01\x02\x00\x00\x00\x04\x04\x00\x00\x03": {{Op: 9, Form: 7, Fields: []api.Field{boolean(1), text(4, 3)}}},
		"\x01\x1e\x07\x01\x01\x01\x01\x02\x00":                     {{Op: 30, Form: 7, Fields: []api.Field{whole(1, -1, 1)}}},
		"\x03\x0a\x07\x08\x07\x03\x04\x0a\x06":                     {{Op: 10, Form: 7}, {Op: 8, Form: 7, Field: 3, To: 4}, {Op: 10, Form: 6}},
	}
}

// P15.2: the bytes of lists of every Op, which Parse reads back.
func TestPrint(t *testing.T) {
	for want, l := range samples() {
		if b, e := Print(l); string(b) != want || e != api.OK {
			t.Errorf("Print(%v) = %x, %d, not %x", l, b, e, want)
		}
		if got, e := Parse([]byte(want)); !equalLists(got, l) || e != api.OK {
			t.Errorf("Parse(%x) = %v, %d, not %v", want, got, e, l)
		}
	}
	if b, e := Print(nil); string(b) != "\x00" || e != api.OK {
		t.Errorf("Print(nil) = %x, %d", b, e)
	}
	for _, x := range rights() {
		if b, e := Print([]api.Step{x}); !bytes.Equal(b, encoded(x)) || e != api.OK {
			t.Errorf("Print(%v) = %x, %d, not %x", x, b, e, encoded(x))
		}
	}
	if b, e := Print(rights()[:40]); !bytes.Equal(b, encoded(rights()[:40]...)) || e != api.OK {
		t.Errorf("40 steps: %x, %d", b, e)
	}
}

// P15.2: the errors of Print, and which one comes first.
func TestPrintErrors(t *testing.T) {
	end := api.Step{Op: 10, Form: 7}
	for n := range 60 {
		want := api.OK
		if n > 40 {
			want = api.ErrMany
		}
		if b, e := Print(slices.Repeat([]api.Step{end}, n)); e != want || want != api.OK && len(b) != 0 {
			t.Errorf("%d steps: %x, %d", n, b, e)
		}
	}
	for _, x := range wrongs() {
		for _, l := range [][]api.Step{{x}, {end, x}, {x, end}, append(slices.Repeat([]api.Step{end}, 39), x)} {
			if b, e := Print(l); len(b) != 0 || e != api.ErrArg {
				t.Errorf("Print(%v) = %x, %d, not ErrArg", l, b, e)
			}
		}
		if b, e := Print(append([]api.Step{x}, slices.Repeat([]api.Step{end}, 40)...)); len(b) != 0 || e != api.ErrMany {
			t.Errorf("41 steps with %v: %x, %d, not ErrMany", x, b, e)
		}
	}
}

// checkParse compares Parse with the decoder written from the definitions, and a decoded list's encoding with what was read (P15.2, P15.3).
func checkParse(t *testing.T, b []byte) api.Errno {
	t.Helper()
	l, e := Parse(b)
	want, bad := decoded(b)
	if e != bad || !equalLists(l, want) {
		t.Fatalf("Parse(%x) = %v, %d, not %v, %d", b, l, e, want, bad)
	}
	if e != api.OK {
		return e
	}
	if again, e := Print(l); e != api.OK || !bytes.Equal(again, b) {
		t.Fatalf("Print(%v) = %x, %d, not %x", l, again, e, b)
	}
	return e
}

// P15.2: the limit of each Count. Behind the bytes before it, the greatest count is read on to the end of the bytes, and one more is too many.
func TestLimits(t *testing.T) {
	field := "\x01\x01\x00\x02\x00"
	tests := []struct {
		before string
		most   int
	}{
		{"", 40}, {"\x01", 30}, {"\x02\x0a\x07", 30},
		{"\x01\x01", 200}, {"\x01\x0a", 200}, {"\x01\x1d", 200}, {"\x01\x09", 200}, {"\x01\x15", 200}, {"\x01\x02", 200}, {"\x01\x1a", 200},
		{"\x01\x02\x07", 255}, {"\x01\x15\x07", 255}, {"\x01\x03\x07", 255}, {"\x01\x04\x07", 255}, {"\x01\x05\x07", 255}, {"\x01\x06\x07", 255}, {"\x01\x07\x07", 255}, {"\x01\x08\x07", 255},
		{"\x01\x01\x07", 8}, {"\x01\x16\x07", 8}, {"\x01\x07\x07\x03", 8}, {"\x01\x1b\x07\x03", 8},
		{"\x01\x08\x07\x03", 255}, {"\x01\x1c\x07\x03", 255}, {"\x01\x06\x07\x03\x02", 255}, {"\x01\x1a\x07\x03\x02", 255},
		{"\x01\x05\x07\x03", 1 << 20}, {"\x01\x06\x07\x03", 1 << 20}, {"\x01\x1a\x07\x03", 1 << 20},
		{"\x01\x01\x07\x02", 255}, {"\x01\x01\x07\x02\x03", 4}, {"\x01\x01\x07\x02\x03\x01\x00\x00", 1000}, {"\x01\x03\x07\x03", 255}, {"\x01\x03\x07\x03\x03", 4}, {"\x01\x03\x07\x03\x03\x04\x00\x00", 1000},
		{"\x01\x18\x07\x03\x02\x00", 255}, {"\x01\x1a\x07\x03\x02\x04\x03", 4}, {"\x01\x01\x07\x02" + field + "\x00", 32}, {"\x01\x02\x07\x03\x00", 32},
		{"\x01\x05\x07\x03\x09", 64}, {"\x01\x19\x07\x03", 64}, {"\x01\x05\x07\x03\x09\x01", 1000}, {"\x01\x19\x07\x03\x02", 1000}, {"\x01\x19\x07\x03\x02\x01", 1000},
		{"\x01\x09\x07", 8}, {"\x01\x1e\x07", 8}, {"\x01\x09\x07\x01", 255}, {"\x01\x09\x07\x01\x01", 4}, {"\x01\x1e\x07\x01\x01\x04\x00\x00", 1000}, {"\x01\x1e\x07\x02" + field, 255},
	}
	for _, c := range tests {
		for _, n := range []int{c.most, c.most + 1, c.most + 2, 1 << 40, math.MaxInt} {
			b := binary.AppendUvarint([]byte(c.before), uint64(n))
			if e := checkParse(t, b); (e == api.ErrMany) != (n > c.most) {
				t.Errorf("%x: %d for %d, of at most %d", b, e, n, c.most)
			}
			if e := checkParse(t, append(b, 0, 0)); (e == api.ErrMany) != (n > c.most) {
				t.Errorf("%x and zeros: %d for %d, of at most %d", b, e, n, c.most)
			}
		}
		if e := checkParse(t, append([]byte(c.before), "\x80\x80\x80\x80\x80\x80\x80\x80\x80\x01"...)); e != api.ErrForm {
			t.Errorf("%x and a count of 2^63: %d", c.before, e)
		}
	}
}

// P15.2: each error of Parse, and which one comes first.
func TestParseErrors(t *testing.T) {
	tests := []struct {
		b    string
		want api.Errno
	}{
		{"", api.ErrShort}, {"\x01", api.ErrShort}, {"\x01\x0a", api.ErrShort}, {"\x02\x0a\x07", api.ErrShort}, {"\x02\x0a\x07\x1d", api.ErrShort}, {"\x02\x0a\x07\x1d\x07", api.OK}, {"\x80", api.ErrShort}, {"\x81\x00", api.ErrForm},
		{"\x00\x00", api.ErrRest}, {"\x01\x0a\x07\x00", api.ErrRest}, {"\x01\x0a\x07\x80", api.ErrRest},
		// An Op that does not exist has no members.
		{"\x01\x00", api.ErrArg}, {"\x01\x0b", api.ErrArg}, {"\x01\x14", api.ErrArg}, {"\x01\x1f", api.ErrMany}, {"\x01\x00\x00", api.ErrRest}, {"\x02\x0b\x0a\x07", api.ErrArg}, {"\x02\x0b\x1f", api.ErrMany}, {"\x02\x14", api.ErrShort}, {"\x01\x14\x07", api.ErrRest},
		// Counts within their limits of steps that are not valid.
		{"\x01\x08\x07\x03\x03", api.ErrArg}, {"\x01\x06\x07\x03\x01\x04", api.ErrArg}, {"\x01\x06\x07\x03\x00\x04", api.ErrArg}, {"\x01\x06\x07\x03\x80\x80\x40\x04", api.OK}, {"\x01\x05\x07\x03\xe8\x07\x01\x00", api.OK}, {"\x01\x05\x07\x03\xe9\x07\x01\x00", api.ErrArg}, {"\x01\x05\x07\x03\x80\x80\x40\x01\x00", api.ErrArg},
		{"\x01\x05\x07\x03\x02\x00", api.ErrArg}, {"\x01\x19\x07\x03\x00", api.ErrArg}, {"\x01\x05\x07\x03\x02\x01\x02", api.ErrArg}, {"\x01\x19\x07\x03\x01\xe8\x07", api.ErrArg}, {"\x01\x19\x07\x03\x02\x05\x05", api.ErrArg}, {"\x01\x09\x07\x00", api.ErrArg},
		{"\x01\x03\x07\x03\x04\x02\x00\x00\x00", api.ErrArg}, {"\x01\x03\x07\x03\x03\x00\x00\x00\x00", api.ErrArg}, {"\x01\x03\x07\x03\x03\x02\x02\x00\x00", api.ErrArg}, {"\x01\x03\x07\x03\x03\x02\x00\x02\x00", api.ErrArg}, {"\x01\x03\x07\x03\x03\x02\x00\x00\x01", api.ErrArg}, {"\x01\x03\x07\x03\x03\x04\x00\x00\x21", api.ErrArg},
		{"\x01\x04\x07\x03\x00\x00", api.ErrArg}, {"\x01\x04\x07\x03\x80\x80\x80\x01\x00", api.OK}, {"\x01\x04\x07\x03\x82\x80\x80\x01\x00", api.ErrArg}, {"\x01\x04\x07\x03\xff\xff\x7f\x00", api.OK}, {"\x01\x04\x07\x03\x81\x80\x80\x01\x00", api.ErrArg},
		{"\x01\x04\x07\x03\xff\xff\xff\xff\xff\xff\xff\xff\xff\x01\x00", api.ErrArg}, {"\x01\x04\x07\x03\x02\xff\xff\xff\xff\xff\xff\xff\xff\xff\x02", api.ErrForm}, {"\x01\x02\x07\x03\xff\xff\xff\xff\xff\x3f\x00", api.OK}, {"\x01\x02\x07\x03\x81\x80\x80\x80\x80\x40\x00", api.ErrArg},
		{"\x01\x01\x07\x02\x03\x02\x00\x00\x00\x04\x00", api.ErrArg}, {"\x01\x01\x07\x02\x03\x02\x00\x00\x00\x02\x01a", api.ErrArg}, {"\x01\x01\x07\x02\x03\x02\x00\x00\x00\x02\x01", api.ErrShort}, {"\x01\x02\x07\x03\x00\x20" + strings.Repeat("a", 31), api.ErrShort}, {"\x01\x02\x07\x03\x00\x20" + strings.Repeat("a", 32), api.OK},
		// The decoder's errors come before ErrRest, and ErrRest before ErrArg; of the decoder's, the first.
		{"\x01\x08\x07\x03\x03\x00", api.ErrRest}, {"\x02\x08\x07\x03\x03\x0a", api.ErrShort}, {"\x02\x08\x07\x03\x03\x0a\xc9\x01", api.ErrMany}, {"\x02\x08\x07\x03\x03\x8a\x00", api.ErrForm}, {"\x02\x08\x07\x03\x03\x0a\x07", api.ErrArg}, {"\x02\x0a\x07\x08\x07\x03\x03", api.ErrArg},
		{"\x02\x0a\xc9\x01\x8a\x00", api.ErrMany}, {"\x02\x0a\x87\x00\x1f", api.ErrForm}, {"\x29\x80\x00", api.ErrMany}, {"\xa9\x00", api.ErrForm}, {"\x01\x08\xc9\x01\x80\x00\x80\x00", api.ErrMany}, {"\x01\x19\x07\x03\x02\xe9\x07\x80\x00", api.ErrMany},
	}
	for _, c := range tests {
		l, e := Parse([]byte(c.b))
		if e != c.want || e != api.OK && l != nil {
			t.Errorf("Parse(%x) = %v, %d, not %d", c.b, l, e, c.want)
		}
		checkParse(t, []byte(c.b))
	}
	if l, e := Parse(nil); l != nil || e != api.ErrShort {
		t.Errorf("Parse(nil) = %v, %d", l, e)
	}
	end := api.Step{Op: 10, Form: 7}
	if l, e := Parse(encoded(slices.Repeat([]api.Step{end}, 40)...)); len(l) != 40 || e != api.OK {
		t.Errorf("40 steps: %v, %d", l, e)
	}
	if l, e := Parse(encoded(slices.Repeat([]api.Step{end}, 41)...)); l != nil || e != api.ErrMany {
		t.Errorf("41 steps: %v, %d", l, e)
	}
}

// random returns a list of a few steps, mostly valid ones with a changed number here and there.
func random(r *rand.Rand) []api.Step {
	all := rights()
	l := []api.Step{}
	for range r.Intn(5) {
		t := clone(all[r.Intn(len(all))])
		for range r.Intn(3) {
			*[]*int{&t.Form, &t.Field, &t.Place, &t.To, &t.A, &t.F.ID, &t.F.Lo, &t.F.Hi, &t.V.N}[r.Intn(9)] += r.Intn(3)
		}
		if len(t.T) > 0 && r.Intn(2) == 0 {
			t.T[r.Intn(len(t.T))] = r.Intn(1 + t.A)
		}
		l = append(l, t)
	}
	return l
}

// P15.2, P15.3: what Parse reads of cut, extended and changed encodings, of encodings of invalid steps, and of random bytes.
func TestParse(t *testing.T) {
	r := rand.New(rand.NewSource(152))
	seen := map[api.Errno]int{}
	lists := [][]api.Step{nil, rights()[:40], rights()[20:60]}
	for _, x := range rights() {
		lists = append(lists, []api.Step{x}, []api.Step{{Op: 10}, x, {Op: 11}})
	}
	for range 300 {
		lists = append(lists, random(r))
	}
	for _, l := range lists {
		b := encoded(l...)
		seen[checkParse(t, b)]++
		if len(b) > 200 {
			continue
		}
		for n := range b {
			seen[checkParse(t, b[:n])]++
			for _, x := range []byte{0, 1, 2, 3, 4, 5, 8, 9, 10, 31, 127, 128, 255, b[n] - 1, b[n] + 1} {
				c := bytes.Clone(b)
				c[n] = x
				seen[checkParse(t, c)]++
			}
			seen[checkParse(t, slices.Insert(bytes.Clone(b), n, byte(r.Intn(5))))]++
			seen[checkParse(t, slices.Delete(bytes.Clone(b), n, n+1))]++
		}
		seen[checkParse(t, append(bytes.Clone(b), 0))]++
		seen[checkParse(t, append(bytes.Clone(b), b...))]++
	}
	for range 100000 {
		b := make([]byte, r.Intn(16))
		for i := range b {
			b[i] = []byte{0, 1, 1, 2, 2, 3, 4, 7, 10, byte(r.Intn(31)), byte(r.Intn(256))}[r.Intn(11)]
		}
		seen[checkParse(t, b)]++
	}
	for _, e := range []api.Errno{api.OK, api.ErrShort, api.ErrRest, api.ErrArg, api.ErrMany, api.ErrForm} {
		if seen[e] < 100 {
			t.Errorf("error %d only %d times", e, seen[e])
		}
	}
}

// P15.3: lists of valid steps are decoded from their encodings.
func TestRoundTrip(t *testing.T) {
	r := rand.New(rand.NewSource(153))
	all := []api.Step{}
	for _, x := range rights() {
		all = append(all, x)
		for _, c := range changed(x) {
			if valid(c) {
				all = append(all, c)
			}
		}
	}
	for range 5000 {
		l := []api.Step{}
		for range r.Intn(41) {
			l = append(l, all[r.Intn(len(all))])
		}
		b, e := Print(l)
		if e != api.OK || !bytes.Equal(b, encoded(l...)) {
			t.Fatalf("Print(%v) = %x, %d", l, b, e)
		}
		if got, e := Parse(b); e != api.OK || !equalLists(got, l) {
			t.Fatalf("Parse(Print(%v)) = %v, %d", l, got, e)
		}
	}
	for _, x := range all {
		b, _ := Print([]api.Step{x})
		if got, e := Parse(b); e != api.OK || !equalLists(got, []api.Step{x}) {
			t.Errorf("Parse(Print(%v)) = %v, %d", x, got, e)
		}
	}
}

// R3: neither arguments nor their spare capacity are modified.
func TestArguments(t *testing.T) {
	table := append(make([]int, 0, 8), 2, 0)
	fields := append(make([]api.Field, 0, 8), boolean(1), text(4, 3))
	l := append(make([]api.Step, 0, 8), api.Step{Op: 5, Form: 7, Field: 3, A: 3, T: table}, api.Step{Op: 9, Form: 8, Fields: fields})
	before := []api.Step{clone(l[0]), clone(l[1])}
	for _, x := range l {
		Right(x)
		Same(x, x)
	}
	Right(api.Step{Op: 10, T: table, Fields: fields})
	b, _ := Print(l)
	if !equalLists(l, before) || !equalLists(l[2:8], make([]api.Step, 6)) || !slices.Equal(table[2:8], make([]int, 6)) || !slices.Equal(fields[2:8], make([]api.Field, 6)) {
		t.Error("steps were modified")
	}
	in := append(make([]byte, 0, 50), b...)
	Parse(in)
	if !bytes.Equal(in, b) || !bytes.Equal(in[len(b):50], make([]byte, 50-len(b))) {
		t.Error("bytes were modified")
	}
}

// R3: results share no memory with arguments or with other results, nor two lists of one result.
func TestMemory(t *testing.T) {
	l := []api.Step{{Op: 2, V: str("ab")}, {Op: 5, Form: 7, Field: 3, A: 3, T: []int{2, 0}}, {Op: 25, T: []int{2, 0}}, {Op: 9, Form: 8, Fields: []api.Field{boolean(1), text(4, 3)}}, {Op: 30, Form: 8, Fields: []api.Field{boolean(1), text(4, 3)}}}
	b, _ := Print(l)
	again, _ := Print(l)
	got, _ := Parse(b)
	other, _ := Parse(b)
	clear(b)
	if !bytes.Equal(again, encoded(l...)) || !equalLists(got, l) {
		t.Error("an encoding shares memory")
	}
	for i := range got {
		rest := [][]api.Step{slices.Clone(got[:i]), slices.Clone(got[i+1:])}
		clear(got[i].T)
		clear(got[i].Fields)
		got[i].T, got[i].Fields = append(got[i].T, 9, 9, 9), append(got[i].Fields, api.Field{}, api.Field{})
		if !equalLists(rest[1], l[i+1:]) || !equalLists(other, l) {
			t.Errorf("the lists of step %d share memory with others", i)
		}
	}
}

// R3: what is behind the end of a slice does not belong to it.
func TestEnds(t *testing.T) {
	table := []int{2, 0, 1, 2}
	fields := []api.Field{boolean(1), text(4, 3), boolean(1)}
	if !Right(api.Step{Op: 25, T: table[:3]}) || Right(api.Step{Op: 25, T: table}) || !Right(api.Step{Op: 9, Fields: fields[:2]}) || Right(api.Step{Op: 9, Fields: fields}) {
		t.Error("a list is read behind its end")
	}
	b := encoded(api.Step{Op: 25, T: []int{2, 0}}, api.Step{Op: 9, Fields: fields[:2]})
	for n := range b {
		if e := checkParse(t, b[:n]); e != api.ErrShort {
			t.Errorf("the first %d bytes of %x: %d", n, b, e)
		}
	}
}
