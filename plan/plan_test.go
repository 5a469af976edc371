package plan

import (
	"cmp"
	"fmt"
	"math"
	"math/rand"
	"slices"
	"testing"

	"instar/api"
	"instar/link"
	"instar/pair"
	"instar/schema"
	"instar/step"
	"instar/typing"
)

func whole(id, lo, hi int) api.Field { return api.Field{ID: id, Kind: 1, Lo: lo, Hi: hi} }

func boolean(id int) api.Field { return api.Field{ID: id, Kind: 2} }

func pick(id, most int) api.Field { return api.Field{ID: id, Kind: 3, Most: most} }

func text(id, most int) api.Field { return api.Field{ID: id, Kind: 4, Most: most} }

func form(id int, l ...api.Field) api.Form { return api.Form{ID: id, Fields: l} }

func version(n int, l ...api.Form) api.Schema { return api.Schema{Version: n, Forms: l} }

func steps(l ...api.Step) []api.Step { return l }

func links(l ...api.Link) []api.Link { return l }

// edge returns a link without forms and steps.
func edge(from, to int) api.Link { return api.Link{From: from, To: version(to)} }

// edges returns the links between the versions n[0] and n[1], n[2] and n[3], and so on.
func edges(n ...int) []api.Link {
	var l []api.Link
	for i := 0; i < len(n); i += 2 {
		l = append(l, edge(n[i], n[i+1]))
	}
	return l
}

// good returns a link that fits a schema, to a version and with steps that can be applied to it.
func good(s api.Schema, n int, on ...api.Step) api.Link {
	to, at, e := typing.All(s, on)
	back, bad := pair.Back(s, on)
	if e != api.OK || bad != api.OK {
		panic(fmt.Sprint("not a link: ", at, e, bad))
	}
	x := api.Link{From: s.Version, To: to, On: on, Back: back}
	x.To.Version = n
	return x
}

// renames returns n steps that rename field 1 of form 7 to 2 and back again.
func renames(n int) []api.Step {
	l := []api.Step{}
	for i := range n {
		l = append(l, api.Step{Op: 8, Form: 7, Field: 1 + i%2, To: 2 - i%2})
	}
	return l
}

// chain returns a schema of version 1, links from each version to the next one with even numbers of steps, and the schema that the last one leads to.
func chain(counts ...int) (api.Schema, []api.Link, api.Schema) {
	first := version(1, form(7, boolean(1)))
	s, l := first, []api.Link{}
	for i, n := range counts {
		l = append(l, good(s, i+2, renames(n)...))
		s = l[i].To
	}
	return first, l, s
}

// leads reports whether indices are a path, as the chapter defines it.
func leads(l []api.Link, path []int, from, to int) bool {
	for _, i := range path {
		if l[i].From != from {
			return false
		}
		from = l[i].To.Version
	}
	return from == to
}

// sequences returns all sequences of n indices from 0 to most - 1, in lexicographic order.
func sequences(n, most int) [][]int {
	all := [][]int{{}}
	for range n {
		var next [][]int
		for _, q := range all {
			for i := range most {
				next = append(next, append(slices.Clone(q), i))
			}
		}
		all = next
	}
	return all
}

// search adds to found all paths that begin with path, which leads to from, and come to no version twice.
func search(l []api.Link, path, seen []int, from, to int, found *[][]int) {
	if from == to {
		*found = append(*found, slices.Clone(path))
	}
	for i, x := range l {
		if x.From == from && !slices.Contains(seen, x.To.Version) {
			search(l, append(slices.Clone(path), i), append(slices.Clone(seen), x.To.Version), x.To.Version, to, found)
		}
	}
}

// shortest returns what Way must return for at most 8 links: the least of all paths, by their lengths and then by their indices.
func shortest(l []api.Link, from, to int) ([]int, api.Errno) {
	var found [][]int
	search(l, nil, []int{from}, from, to, &found)
	if len(found) == 0 {
		return nil, api.ErrChain
	}
	return slices.MinFunc(found, func(a, b []int) int { return cmp.Or(len(a)-len(b), slices.Compare(a, b)) }), api.OK
}

func sameSteps(a, b []api.Step) bool { return slices.EqualFunc(a, b, step.Same) }

// expected returns what Check must return, computed from the definitions of the chapter.
func expected(s api.Schema, l []api.Link, to api.Schema) ([]api.Step, api.Errno) {
	switch {
	case !schema.Right(s), !schema.Right(to):
		return nil, api.ErrArg
	case len(l) > 8:
		return nil, api.ErrMany
	}
	path, e := shortest(l, s.Version, to.Version)
	if e != api.OK {
		return nil, e
	}
	var all []api.Step
	for _, i := range path {
		x := l[i]
		if !link.Right(x) {
			return nil, api.ErrArg
		}
		back, e := pair.Back(s, x.On)
		if e != api.OK {
			return nil, e
		}
		if !sameSteps(back, x.Back) {
			return nil, api.ErrPair
		}
		for _, t := range x.On {
			s, _ = typing.On(s, t)
			all = append(all, t)
		}
		s.Version = x.To.Version
		if !schema.Same(s, x.To) {
			return nil, api.ErrType
		}
	}
	if !schema.Same(s, to) {
		return nil, api.ErrType
	}
	if len(all) > 200 {
		return nil, api.ErrMany
	}
	return all, api.OK
}

// checkWay compares Way with what it must return.
func checkWay(t *testing.T, l []api.Link, from, to int, want []int, bad api.Errno) {
	t.Helper()
	got, e := Way(l, from, to)
	if e != bad || !slices.Equal(got, want) || e != api.OK && got != nil {
		t.Errorf("Way(%v, %d, %d) = %v, %d, not %v, %d", l, from, to, got, e, want, bad)
	}
	if e == api.OK && !leads(l, got, from, to) {
		t.Errorf("Way(%v, %d, %d) = %v is not a path", l, from, to, got)
	}
}

// checkCheck compares Check with what it must return, and the schema that the steps lead to with to (P22.3).
func checkCheck(t *testing.T, s api.Schema, l []api.Link, to api.Schema) ([]api.Step, api.Errno) {
	t.Helper()
	got, e := Check(s, l, to)
	want, bad := expected(s, l, to)
	if e != bad || !sameSteps(got, want) || e != api.OK && got != nil {
		t.Errorf("Check(%v, %v, %v) = %v, %d, not %v, %d", s, l, to, got, e, want, bad)
	}
	if e != api.OK {
		return got, e
	}
	end, _, bad := typing.All(s, got)
	end.Version = to.Version
	if bad != api.OK || !schema.Same(end, to) {
		t.Errorf("the steps of Check(%v, %v, %v) lead to %v, %d", s, l, to, end, bad)
	}
	return got, e
}

// P22.1: paths of given links.
func TestWay(t *testing.T) {
	tests := []struct {
		l        []api.Link
		from, to int
		want     []int
		e        api.Errno
	}{
		// The example of the chapter.
		{edges(1, 2, 2, 3, 1, 3), 1, 3, []int{2}, api.OK}, {edges(1, 3, 1, 2, 2, 3), 1, 3, []int{0}, api.OK}, {edges(1, 2, 1, 3, 2, 3), 1, 3, []int{1}, api.OK},
		// One link, and links in any order.
		{edges(1, 2), 1, 2, []int{0}, api.OK}, {edges(2, 1), 2, 1, []int{0}, api.OK}, {edges(1, 2, 2, 3), 1, 3, []int{0, 1}, api.OK}, {edges(2, 3, 1, 2), 1, 3, []int{1, 0}, api.OK}, {edges(2, 3, 1, 2), 1, 2, []int{1}, api.OK},
		{edges(4, 5, 3, 4, 2, 3, 1, 2), 1, 5, []int{3, 2, 1, 0}, api.OK}, {edges(3, 1, 9, 3, 5, 9), 5, 1, []int{2, 1, 0}, api.OK},
		{edges(1, 2, 2, 3, 3, 4, 4, 5, 5, 6, 6, 7, 7, 8, 8, 9), 1, 9, []int{0, 1, 2, 3, 4, 5, 6, 7}, api.OK}, {edges(8, 9, 7, 8, 6, 7, 5, 6, 4, 5, 3, 4, 2, 3, 1, 2), 1, 9, []int{7, 6, 5, 4, 3, 2, 1, 0}, api.OK},
		{edges(1, 2, 2, 3, 3, 4, 4, 5, 5, 6, 6, 7, 7, 8, 8, 9), 2, 8, []int{1, 2, 3, 4, 5, 6}, api.OK},
		// A path from a version to itself has no links.
		{nil, 1, 1, nil, api.OK}, {[]api.Link{}, 5, 5, nil, api.OK}, {edges(1, 1), 1, 1, nil, api.OK}, {edges(1, 2, 2, 1), 1, 1, nil, api.OK}, {edges(1, 2, 2, 1), 2, 2, nil, api.OK}, {edges(1, 2), 3, 3, nil, api.OK},
		// Of paths of equal length the least: its first difference decides.
		{edges(1, 2, 1, 2), 1, 2, []int{0}, api.OK}, {edges(3, 1, 1, 2, 1, 2, 1, 2), 1, 2, []int{1}, api.OK}, {edges(1, 2, 1, 3, 3, 4, 2, 4), 1, 4, []int{0, 3}, api.OK}, {edges(3, 4, 2, 4, 1, 2, 1, 3), 1, 4, []int{2, 1}, api.OK}, {edges(3, 4, 2, 4, 1, 3, 1, 2), 1, 4, []int{2, 0}, api.OK},
		{edges(1, 2, 1, 3, 3, 5, 2, 4, 5, 6, 4, 6), 1, 6, []int{0, 3, 5}, api.OK}, {edges(4, 6, 5, 6, 2, 5, 2, 4, 1, 2, 1, 2), 1, 6, []int{4, 2, 1}, api.OK}, {edges(1, 2, 1, 2, 2, 3, 2, 3, 3, 4, 3, 4), 1, 4, []int{0, 2, 4}, api.OK},
		// A shorter path comes before one with lesser indices.
		{edges(1, 2, 2, 3, 3, 4, 1, 4), 1, 4, []int{3}, api.OK}, {edges(1, 2, 2, 3, 3, 9, 1, 4, 4, 9), 1, 9, []int{3, 4}, api.OK}, {edges(1, 2, 2, 3, 3, 4, 4, 9, 1, 5, 5, 6, 6, 9), 1, 9, []int{4, 5, 6}, api.OK},
		// A link that leads nowhere, back, or to itself is not part of it.
		{edges(1, 5, 1, 2, 2, 3), 1, 3, []int{1, 2}, api.OK}, {edges(1, 5, 5, 6, 1, 2, 2, 3), 1, 3, []int{2, 3}, api.OK}, {edges(1, 1, 1, 2, 2, 2, 2, 3), 1, 3, []int{1, 3}, api.OK}, {edges(1, 2, 2, 1, 2, 3, 3, 2, 3, 4), 1, 4, []int{0, 2, 4}, api.OK},
		// No path.
		{nil, 1, 2, nil, api.ErrChain}, {edges(1, 2), 2, 1, nil, api.ErrChain}, {edges(1, 2), 1, 3, nil, api.ErrChain}, {edges(1, 2), 3, 2, nil, api.ErrChain}, {edges(1, 2, 3, 4), 1, 4, nil, api.ErrChain}, {edges(1, 2, 2, 1), 1, 3, nil, api.ErrChain}, {edges(1, 2, 2, 1, 3, 1), 1, 3, nil, api.ErrChain},
		{edges(1, 1), 1, 2, nil, api.ErrChain}, {edges(1, 2, 2, 3, 3, 4, 4, 5, 5, 6, 6, 7, 7, 8, 8, 9), 9, 1, nil, api.ErrChain}, {edges(1, 2, 2, 3, 3, 4, 4, 5, 5, 6, 6, 7, 7, 8, 8, 9), 1, 10, nil, api.ErrChain},
		{slices.Repeat(edges(1, 1), 8), 1, 2, nil, api.ErrChain}, {slices.Repeat(edges(1, 2, 2, 1), 4), 1, 3, nil, api.ErrChain}, {append(slices.Repeat(edges(1, 1), 7), edge(1, 2)), 1, 2, []int{7}, api.OK},
	}
	for _, c := range tests {
		checkWay(t, c.l, c.from, c.to, c.want, c.e)
	}
}

// P22.1: more than 8 links are too many, whatever the path is, and 8 are not.
func TestWayMany(t *testing.T) {
	for n := range 300 {
		l := slices.Repeat(edges(1, 2), n)
		want := [][]int{{0}, nil, nil}
		bad := []api.Errno{api.OK, api.OK, api.ErrChain}
		switch {
		case n > 8:
			want, bad = make([][]int, 3), []api.Errno{api.ErrMany, api.ErrMany, api.ErrMany}
		case n == 0:
			want[0], bad[0] = nil, api.ErrChain
		}
		for i, to := range []int{2, 1, 3} {
			checkWay(t, l, 1, to, want[i], bad[i])
		}
	}
	checkWay(t, make([]api.Link, 9), 1, 1, nil, api.ErrMany)
	checkWay(t, edges(1, 2, 2, 3, 3, 4, 4, 5, 5, 6, 6, 7, 7, 8, 8, 9, 9, 10), 1, 10, nil, api.ErrMany)
}

// P22.1: all lists of up to three links between three versions, against all sequences of indices.
func TestWaySmall(t *testing.T) {
	for n := range 4 {
		all := make([][][]int, n+1)
		for k := range all {
			all[k] = sequences(k, n)
		}
		for _, code := range sequences(n, 9) {
			var l []api.Link
			for _, c := range code {
				l = append(l, edge(1+c/3, 1+c%3))
			}
			for from := 1; from <= 4; from++ {
				for to := 1; to <= 4; to++ {
					want, e := []int(nil), api.ErrChain
					for _, q := range slices.Concat(all...) {
						if leads(l, q, from, to) {
							want, e = q, api.OK
							break
						}
					}
					checkWay(t, l, from, to, want, e)
				}
			}
		}
	}
}

// P22.1: random links, against a search for all paths.
func TestWayRandom(t *testing.T) {
	r := rand.New(rand.NewSource(221))
	lengths := map[int]int{}
	for range 20000 {
		most := 2 + r.Intn(8)
		var l []api.Link
		for range r.Intn(9) {
			from := 1 + r.Intn(most)
			to := 1 + r.Intn(most)
			if r.Intn(3) > 0 {
				from = 1 + len(l)%most
				to = from%most + 1
			}
			l = append(l, edge(from, to))
		}
		r.Shuffle(len(l), func(i, k int) { l[i], l[k] = l[k], l[i] })
		for range 5 {
			from, to := 1+r.Intn(most), 1+r.Intn(most)
			want, e := shortest(l, from, to)
			checkWay(t, l, from, to, want, e)
			if e == api.OK {
				lengths[len(want)]++
			}
		}
	}
	for n := range 6 {
		if lengths[n] < 100 {
			t.Errorf("only %d paths with %d links", lengths[n], n)
		}
	}
}

// P22.1: versions may be any numbers, and a link need not be valid.
func TestWayOdd(t *testing.T) {
	odd := []int{math.MinInt, math.MinInt + 1, -1 << 32, -65536, -1, 0, 1, 65535, 65536, 1 << 32, 1<<32 + 1, math.MaxInt - 1, math.MaxInt}
	for i, a := range odd {
		checkWay(t, nil, a, a, nil, api.OK)
		for k, b := range odd {
			if i == k {
				checkWay(t, edges(a, b), a, b, nil, api.OK)
				continue
			}
			checkWay(t, edges(a, b), a, b, []int{0}, api.OK)
			checkWay(t, edges(a, b), b, a, nil, api.ErrChain)
			checkWay(t, edges(b, 300, a, b), a, 300, []int{1, 0}, api.OK)
			checkWay(t, nil, a, b, nil, api.ErrChain)
		}
	}
	poor := []api.Link{{From: 1, To: version(2, form(201), form(7)), On: renames(41), Back: steps(api.Step{})}, {From: 2, To: version(3), On: steps(api.Step{Op: 99}), Back: renames(100)}}
	checkWay(t, poor, 1, 3, []int{0, 1}, api.OK)
	checkWay(t, make([]api.Link, 8), 0, 0, nil, api.OK)
	checkWay(t, make([]api.Link, 8), 0, 1, nil, api.ErrChain)
}

// road returns schemas of the versions 1 to 4, and links from each to the next one, whose steps are of many kinds.
func road() ([]api.Schema, []api.Link) {
	s := version(1, form(6, pick(1, 3), text(4, 9)), form(7, whole(1, 0, 100), boolean(2)))
	a := good(s, 2, api.Step{Op: 1, Form: 6, Place: 1, F: boolean(9), V: api.Value{N: 1}}, api.Step{Op: 6, Form: 7, Field: 1, A: 7, To: 5})
	b := good(a.To, 3, api.Step{Op: 5, Form: 6, Field: 1, A: 5, T: []int{4, 0, 2}}, api.Step{Op: 2, Form: 7, Field: 2, V: api.Value{N: 1}}, api.Step{Op: 9, Form: 9, Fields: []api.Field{boolean(1), text(2, 3)}})
	c := good(b.To, 4, api.Step{Op: 4, Form: 7, Field: 5, A: -2, B: 3}, api.Step{Op: 10, Form: 6})
	return []api.Schema{s, a.To, b.To, c.To}, links(a, b, c)
}

// P22.2: the steps along paths that fit, in order.
func TestCheck(t *testing.T) {
	s, l := road()
	for from := range 4 {
		for to := from; to < 4; to++ {
			var want []api.Step
			for i := from; i < to; i++ {
				want = append(want, l[i].On...)
			}
			for _, order := range [][]api.Link{l, links(l[2], l[0], l[1]), links(l[2], l[1], l[0])} {
				if got, e := checkCheck(t, s[from], order, s[to]); e != api.OK || !sameSteps(got, want) {
					t.Errorf("from %d to %d: %v, %d, not %v", from+1, to+1, got, e, want)
				}
				if got, e := checkCheck(t, s[to], order, s[from]); from < to && (e != api.ErrChain || got != nil) {
					t.Errorf("from %d to %d: %v, %d", to+1, from+1, got, e)
				}
			}
		}
	}
	first, want, last := version(65535), steps(api.Step{Op: 9, Form: 200, Fields: []api.Field{boolean(255)}}), version(1, form(200, boolean(255)))
	if got, e := checkCheck(t, first, links(good(first, 1, want...)), last); e != api.OK || !sameSteps(got, want) {
		t.Errorf("from 65535 to 1: %v, %d", got, e)
	}
	if got, e := checkCheck(t, version(3), edges(3, 4), version(4)); e != api.OK || len(got) != 0 {
		t.Errorf("without steps: %v, %d", got, e)
	}
}

// P22.2: a schema leads to itself without a link, and to no other one of its version.
func TestCheckSelf(t *testing.T) {
	s, l := road()
	ring := append(links(l...), good(s[3], 1), api.Link{From: 1, To: s[0]})
	for i, x := range s {
		for _, l := range [][]api.Link{nil, {}, l, ring, make([]api.Link, 8)} {
			if got, e := checkCheck(t, x, l, x); e != api.OK || len(got) != 0 {
				t.Errorf("schema %d to itself: %v, %d", i, got, e)
			}
			other := s[(i+1)%4]
			other.Version = x.Version
			if got, e := checkCheck(t, x, l, other); e != api.ErrType || got != nil {
				t.Errorf("schema %d to another one of its version: %v, %d", i, got, e)
			}
		}
		if got, e := checkCheck(t, x, make([]api.Link, 9), x); e != api.ErrMany || got != nil {
			t.Errorf("schema %d with nine links: %v, %d", i, got, e)
		}
	}
}

// P22.2: what is on no path is not checked; what is on the path is, even if another path would fit.
func TestCheckPath(t *testing.T) {
	s, l := road()
	poor := links(api.Link{}, api.Link{From: 1, To: version(9), On: renames(41)}, api.Link{From: 9, To: version(0)}, api.Link{From: 4, To: s[0], Back: steps(api.Step{Op: 99})}, api.Link{From: 3, To: s[1], On: renames(1)})
	if got, e := checkCheck(t, s[0], append(poor, l...), s[3]); e != api.OK || len(got) != 7 {
		t.Errorf("with links aside: %v, %d", got, e)
	}
	// The second of two equal paths fits, or the first one.
	twin := l[0]
	twin.Back = nil
	if got, e := checkCheck(t, s[0], links(twin, l[0], l[1]), s[2]); e != api.ErrPair || got != nil {
		t.Errorf("the first of two links does not fit: %v, %d", got, e)
	}
	if got, e := checkCheck(t, s[0], links(l[0], twin, l[1]), s[2]); e != api.OK || len(got) != 5 {
		t.Errorf("the second of two links does not fit: %v, %d", got, e)
	}
	// The shorter path does not fit, and then has other steps than the longer one.
	short := api.Link{From: 1, To: s[2]}
	if got, e := checkCheck(t, s[0], append(links(l...), short), s[2]); e != api.ErrType || got != nil {
		t.Errorf("the shorter path does not fit: %v, %d", got, e)
	}
	short = good(s[0], 3, append(slices.Clone(l[0].On), append(slices.Clone(l[1].On), api.Step{Op: 7, Form: 7, Field: 1})...)...)
	if got, e := checkCheck(t, s[0], append(links(l...), short), s[2]); e != api.OK || len(got) != 6 {
		t.Errorf("the shorter path has more steps: %v, %d", got, e)
	}
}

// P22.2: at most 200 steps along the path, however they are divided.
func TestCheckMany(t *testing.T) {
	counts := [][]int{{40, 40, 40, 40, 40}, {0, 40, 40, 40, 40, 40}, {40, 40, 40, 40, 40, 2}, {40, 40, 40, 40, 38, 2}, {40, 40, 40, 40, 38, 4}, {2, 40, 40, 40, 40, 40}, {40, 40, 40, 40, 40, 40}, {40, 40, 40, 40, 40, 40, 40, 40}}
	for n := 0; n <= 40; n += 2 {
		counts = append(counts, slices.Repeat([]int{n}, 8), []int{n, 40 - n, 40, 30, 26, 24, 22, 18})
	}
	r := rand.New(rand.NewSource(222))
	for range 100 {
		c := make([]int, 6+r.Intn(3))
		for i := range c {
			c[i] = 2 * (10 + r.Intn(11))
		}
		counts = append(counts, c)
	}
	seen := map[api.Errno]int{}
	for _, c := range counts {
		total := 0
		for _, n := range c {
			total += n
		}
		s, l, to := chain(c...)
		got, e := checkCheck(t, s, l, to)
		if (e == api.OK) != (total <= 200) || e == api.OK && len(got) != total || e != api.OK && e != api.ErrMany {
			t.Errorf("%v: %d steps, %d", c, len(got), e)
		}
		seen[e]++
	}
	if seen[api.OK] < 20 || seen[api.ErrMany] < 20 {
		t.Error(seen)
	}
	// One step more than 200, and 201 to 320 steps of which not all are on the path.
	s, l, to := chain(40, 40, 40, 40, 40)
	last := good(to, 7, renames(1)...)
	if got, e := checkCheck(t, s, append(links(l...), last), last.To); e != api.ErrMany || got != nil {
		t.Errorf("201 steps: %d, %d", len(got), e)
	}
	if got, e := checkCheck(t, s, append(links(l...), last), to); e != api.OK || len(got) != 200 {
		t.Errorf("a link behind 200 steps: %d, %d", len(got), e)
	}
	last = good(l[4].To, 1, renames(40)...)
	if got, e := checkCheck(t, s, append(links(l...), last, last, last), to); e != api.OK || len(got) != 200 {
		t.Errorf("links beside 200 steps: %d, %d", len(got), e)
	}
}

// P22.2: schemas that are not valid.
func TestCheckSchemas(t *testing.T) {
	s, l := road()
	poor := []api.Schema{{}, version(0), version(-1), version(65536), version(math.MinInt), version(1<<32 + 1), version(1, form(7)), version(1, form(201, boolean(1))), version(1, form(7, boolean(1)), form(7, boolean(1))), version(1, form(7, boolean(1)), form(6, boolean(1))), version(1, form(7, boolean(1), boolean(1))), version(4, form(7, whole(1, 1, 0)))}
	for _, p := range poor {
		for _, l := range [][]api.Link{nil, l, edges(p.Version, 4, 1, p.Version), make([]api.Link, 9)} {
			for _, c := range [][2]api.Schema{{p, s[3]}, {s[0], p}, {p, p}} {
				if got, e := checkCheck(t, c[0], l, c[1]); e != api.ErrArg || got != nil {
					t.Errorf("Check(%v, %v, %v) = %v, %d", c[0], l, c[1], got, e)
				}
			}
		}
	}
}

// P22.2: each error of the typing of a link's steps, and of its steps back, in the first link and in the second.
func TestCheckPair(t *testing.T) {
	full := version(1, form(6, text(1, 32), text(2, 30)), form(7, whole(1, 5, 9), pick(2, 3)))
	tests := []struct {
		x api.Step
		e api.Errno
	}{
		{api.Step{Op: 21, Form: 7, Field: 1}, api.ErrArg}, {api.Step{Op: 29, Form: 7}, api.ErrArg}, {api.Step{Op: 10, Form: 8}, api.ErrNone}, {api.Step{Op: 8, Form: 7, Field: 3, To: 4}, api.ErrNone}, {api.Step{Op: 9, Form: 6, Fields: []api.Field{boolean(1)}}, api.ErrTwice},
		{api.Step{Op: 8, Form: 7, Field: 1, To: 2}, api.ErrTwice}, {api.Step{Op: 1, Form: 7, Place: 3, F: boolean(3)}, api.ErrRange}, {api.Step{Op: 7, Form: 7, Field: 1, Place: 2}, api.ErrRange}, {api.Step{Op: 2, Form: 7, Field: 1, V: api.Value{N: 4}}, api.ErrType},
		{api.Step{Op: 6, Form: 7, Field: 1, A: 2, To: 4}, api.ErrType}, {api.Step{Op: 5, Form: 7, Field: 2, A: 2, T: []int{1, 0}}, api.ErrType}, {api.Step{Op: 1, Form: 6, F: boolean(3)}, api.ErrMany}, {api.Step{Op: 9, Form: 8, Fields: []api.Field{boolean(1)}}, api.OK},
	}
	for _, c := range tests {
		bad := api.Link{From: 1, To: version(2, full.Forms...), On: steps(c.x)}
		if c.e == api.OK {
			bad = good(full, 2, c.x)
		}
		if got, e := checkCheck(t, full, links(bad), bad.To); e != c.e || e != api.OK && got != nil {
			t.Errorf("%v: %v, %d, not %d", c.x, got, e, c.e)
		}
		first := good(version(3, full.Forms...), 1, api.Step{Op: 7, Form: 7, Field: 1})
		if got, e := checkCheck(t, version(3, full.Forms...), links(bad, first), bad.To); e != c.e || e != api.OK && got != nil {
			t.Errorf("%v in the second link: %v, %d, not %d", c.x, got, e, c.e)
		}
	}
	s, l := road()
	for i := range l {
		for k := range l[i].Back {
			for _, back := range [][]api.Step{l[i].Back[:k], l[i].Back[k+1:], append(slices.Clone(l[i].Back), l[i].Back[k]), append(slices.Clone(l[i].Back[:k]), append(steps(api.Step{Op: 29, Form: 99}), l[i].Back[k+1:]...)...)} {
				c := slices.Clone(l)
				c[i].Back = back
				if got, e := checkCheck(t, s[0], c, s[3]); e != api.ErrPair || got != nil {
					t.Errorf("link %d with the steps back %v: %v, %d", i, back, got, e)
				}
			}
		}
	}
}

// cloned returns a copy of a schema that shares no memory with it.
func cloned(s api.Schema) api.Schema {
	c := version(s.Version)
	for _, f := range s.Forms {
		c.Forms = append(c.Forms, form(f.ID, slices.Clone(f.Fields)...))
	}
	return c
}

// others returns valid schemas that differ from s in one place, but not in the version.
func others(s api.Schema) []api.Schema {
	all := []api.Schema{version(s.Version), version(s.Version, form(200, boolean(1))), version(s.Version, append(cloned(s).Forms, form(200, boolean(1)))...), version(s.Version, s.Forms[1:]...), version(s.Version, s.Forms[:len(s.Forms)-1]...)}
	for i, f := range s.Forms {
		for k := range f.Fields {
			for m := range 5 {
				c := cloned(s)
				x := &c.Forms[i].Fields[k]
				*[]*int{&x.ID, &x.Hi, &x.Lo, &x.Most, &x.Kind}[m] += []int{50, 1, -1, 1, 1}[m]
				all = append(all, c)
			}
		}
		c := cloned(s)
		c.Forms[i].Fields = append(c.Forms[i].Fields, boolean(99))
		all = append(all, c)
		if len(f.Fields) > 1 {
			c := cloned(s)
			slices.Reverse(c.Forms[i].Fields[:2])
			all = append(all, c)
		}
	}
	return slices.DeleteFunc(all, func(c api.Schema) bool { return !schema.Right(c) || schema.Same(c, s) })
}

// P22.2: the schema that a link's steps make is exactly To, and that of the last link is exactly to.
func TestCheckType(t *testing.T) {
	s, l := road()
	for i := range l {
		all := others(l[i].To)
		if len(all) < 8 {
			t.Fatalf("only %d other schemas", len(all))
		}
		for _, other := range all {
			if got, e := checkCheck(t, s[0], l[:i+1], other); e != api.ErrType || got != nil {
				t.Errorf("%d links to %v: %v, %d", i+1, other, got, e)
			}
			c := slices.Clone(l)
			c[i].To = other
			if got, e := checkCheck(t, s[0], c, s[3]); e != api.ErrType || got != nil {
				t.Errorf("link %d to %v: %v, %d", i, other, got, e)
			}
			if got, e := checkCheck(t, s[0], c[:i+1], other); e != api.ErrType || got != nil {
				t.Errorf("the last link %d, and all, to %v: %v, %d", i, other, got, e)
			}
		}
	}
	for _, other := range others(s[0]) {
		if got, e := checkCheck(t, other, l, s[3]); e == api.OK || got != nil {
			t.Errorf("from %v: %v", other, got)
		}
	}
}

// job is the arguments of Check.
type job struct {
	s  api.Schema
	l  []api.Link
	to api.Schema
}

// fault is something in a job that is wrong, and the error of it.
type fault struct {
	name string
	do   func(*job)
	e    api.Errno
}

// faults returns faults of a job with six links, in the order of their errors. Each can be combined with all others.
func faults() []fault {
	all := []fault{
		{"s", func(j *job) { j.s.Forms = append(slices.Clone(j.s.Forms), form(3)) }, api.ErrArg},
		{"to", func(j *job) { j.to.Forms = append(slices.Clone(j.to.Forms), form(3)) }, api.ErrArg},
		{"links", func(j *job) { j.l = append(j.l, edges(100, 101, 102, 103, 104, 105)...) }, api.ErrMany},
		{"path", func(j *job) { j.l[3].From = 99 }, api.ErrChain},
	}
	for i := range 6 {
		all = append(all,
			fault{"valid", func(j *job) { j.l[i].Back = append(slices.Clone(j.l[i].Back), api.Step{Op: 99}) }, api.ErrArg},
			fault{"typing", func(j *job) { j.l[i].On[1].Form = 77 }, api.ErrNone},
			fault{"pair", func(j *job) { j.l[i].Back = j.l[i].Back[1:] }, api.ErrPair},
			fault{"type", func(j *job) { j.l[i].To.Forms = append(slices.Clone(j.l[i].To.Forms), form(100+i, boolean(1))) }, api.ErrType})
		all[len(all)-1].name += fmt.Sprint(i)
	}
	return append(all, fault{"end", func(j *job) { j.to.Forms = append(slices.Clone(j.to.Forms), form(200, boolean(1))) }, api.ErrType})
}

// P22.2, R2: the first of several errors.
func TestCheckOrder(t *testing.T) {
	all := faults()
	check := func(count int, chosen ...int) {
		t.Helper()
		slices.Sort(chosen)
		want := api.OK
		if count == 40 {
			want = api.ErrMany
		}
		var j job
		j.s, j.l, j.to = chain(count, count, count, count, count, count)
		for i, c := range chosen {
			all[c].do(&j)
			if i == 0 {
				want = all[c].e
			}
		}
		if got, e := checkCheck(t, j.s, j.l, j.to); e != want || e != api.OK && got != nil {
			t.Errorf("%d steps, faults %v: %v, %d, not %d", count, chosen, got, e, want)
		}
	}
	r := rand.New(rand.NewSource(223))
	for _, count := range []int{2, 40} {
		check(count)
		for i := range all {
			check(count, i)
			for k := range i {
				check(count, k, i)
			}
		}
		for range 500 {
			check(count, r.Perm(len(all))[:3+r.Intn(10)]...)
		}
	}
}

// someField returns a random field.
func someField(r *rand.Rand, id int) api.Field {
	switch r.Intn(4) {
	case 0:
		return boolean(id)
	case 1:
		return pick(id, 1+r.Intn(5))
	case 2:
		return text(id, r.Intn(4))
	}
	return whole(id, 0, r.Intn(1<<r.Intn(16)))
}

// someStep returns a random step for a schema, which mostly can be applied.
func someStep(r *rand.Rand, s api.Schema) api.Step {
	if len(s.Forms) == 0 || r.Intn(12) == 0 {
		return api.Step{Op: 9, Form: r.Intn(4), Fields: []api.Field{someField(r, 1), someField(r, 2)}}
	}
	f := s.Forms[r.Intn(len(s.Forms))]
	if r.Intn(12) == 0 {
		return api.Step{Op: 10, Form: f.ID}
	}
	old := f.Fields[r.Intn(len(f.Fields))]
	x := api.Step{Op: 1 + r.Intn(8), Form: f.ID, Field: old.ID}
	switch x.Op {
	case 1:
		x.Field, x.Place, x.F = 0, r.Intn(len(f.Fields)+1), someField(r, r.Intn(20))
	case 2:
		x.V.N = old.Lo
	case 3:
		x.F = old
		if old.Kind == 1 {
			x.F.Hi++
		}
	case 4:
		x.A, x.B = 1+r.Intn(3), r.Intn(9)
	case 5:
		x.T = r.Perm(max(1, old.Most) + r.Intn(4))
		x.A, x.T = len(x.T), x.T[:max(1, old.Most)]
	case 6:
		x.A, x.To = 2+r.Intn(9), r.Intn(20)
	case 7:
		x.Place = r.Intn(len(f.Fields))
	case 8:
		x.To = r.Intn(20)
	}
	return x
}

// someLink returns a random link that fits a schema.
func someLink(r *rand.Rand, s api.Schema, n int) api.Link {
	now, on := s, []api.Step{}
	for range r.Intn(12) {
		x := someStep(r, now)
		if next, e := typing.On(now, x); e == api.OK {
			now, on = next, append(on, x)
		}
	}
	return good(s, n, on...)
}

// spoil changes a random job in one place.
func spoil(r *rand.Rand, j *job) {
	if len(j.l) == 0 {
		return
	}
	x := &j.l[r.Intn(len(j.l))]
	switch r.Intn(10) {
	case 0:
		x.From = 1 + r.Intn(9)
	case 1:
		x.To.Version = 1 + r.Intn(9)
	case 2:
		x.To = j.l[r.Intn(len(j.l))].To
	case 3:
		x.On = append(slices.Clone(x.On), someStep(r, x.To))
	case 4:
		x.Back = j.l[r.Intn(len(j.l))].Back
	case 5:
		x.On, x.Back = nil, nil
	case 6:
		j.to.Forms = x.To.Forms
	case 7:
		j.s.Forms = x.To.Forms
	case 8:
		x.On = append(slices.Clone(x.On), renames(40)...)
	default:
		x.On, x.Back = x.Back, x.On
	}
}

// P22.1 to P22.3: random links between random schemas of few versions, as they fit and changed in up to two places, against the chapter.
func TestRandom(t *testing.T) {
	r := rand.New(rand.NewSource(224))
	seen, lengths := map[api.Errno]int{}, map[int]int{}
	for range 8000 {
		known := []api.Schema{version(1+r.Intn(9), form(1, someField(r, 1), someField(r, 2)), form(2, someField(r, 3)))}
		var l []api.Link
		for range r.Intn(9) {
			s := known[len(known)-1]
			if r.Intn(4) == 0 {
				s = known[r.Intn(len(known))]
			}
			n := 1 + (s.Version+r.Intn(8))%9
			l = append(l, someLink(r, s, n))
			known = append(known, l[len(l)-1].To)
		}
		r.Shuffle(len(l), func(i, k int) { l[i], l[k] = l[k], l[i] })
		j := job{known[0], l, known[r.Intn(len(known))]}
		for range r.Intn(3) {
			spoil(r, &j)
		}
		_, e := checkCheck(t, j.s, j.l, j.to)
		seen[e]++
		if e == api.OK {
			path, _ := Way(j.l, j.s.Version, j.to.Version)
			lengths[len(path)]++
		}
	}
	for _, e := range []api.Errno{api.OK, api.ErrArg, api.ErrNone, api.ErrTwice, api.ErrType, api.ErrPair, api.ErrChain} {
		if seen[e] < 10 {
			t.Errorf("error %d only %d times", e, seen[e])
		}
	}
	for n := range 5 {
		if lengths[n] < 10 {
			t.Errorf("only %d paths with %d links", lengths[n], n)
		}
	}
}

// roomySteps returns a copy with spare capacity behind all lists.
func roomySteps(l []api.Step) []api.Step {
	c := append(make([]api.Step, 0, len(l)+5), l...)
	for i, x := range l {
		c[i].T, c[i].Fields = append(make([]int, 0, 9), x.T...), append(make([]api.Field, 0, 9), x.Fields...)
	}
	return c
}

// roomySchema returns a copy with spare capacity behind all lists.
func roomySchema(s api.Schema) api.Schema {
	c := api.Schema{Version: s.Version, Forms: append(make([]api.Form, 0, len(s.Forms)+3), s.Forms...)}
	for i, f := range s.Forms {
		c.Forms[i].Fields = append(make([]api.Field, 0, 12), f.Fields...)
	}
	return c
}

// tellSchema tells what is in all lists, and in the capacity behind them.
func tellSchema(s api.Schema) string {
	all := fmt.Sprint(s.Version, s.Forms[:cap(s.Forms)])
	for _, f := range s.Forms {
		all += fmt.Sprint(f.Fields[:cap(f.Fields)])
	}
	return all
}

// tellSteps does the same for steps.
func tellSteps(l []api.Step) string {
	all := fmt.Sprint(l[:cap(l)])
	for _, x := range l {
		all += fmt.Sprint(x.T[:cap(x.T)], x.Fields[:cap(x.Fields)])
	}
	return all
}

// roomy returns copies with spare capacity behind all lists, and a function that reports whether neither they nor the capacity have been modified.
func roomy(j job) (job, func() bool) {
	c := job{roomySchema(j.s), make([]api.Link, 0, 12), roomySchema(j.to)}
	for _, x := range j.l {
		c.l = append(c.l, api.Link{From: x.From, To: roomySchema(x.To), On: roomySteps(x.On), Back: roomySteps(x.Back)})
	}
	now := func() string {
		all := tellSchema(c.s) + tellSchema(c.to) + fmt.Sprint(c.l[:cap(c.l)])
		for _, x := range c.l {
			all += tellSchema(x.To) + tellSteps(x.On) + tellSteps(x.Back)
		}
		return all
	}
	first := now()
	return c, func() bool { return now() == first }
}

// wipe overwrites all that can be reached from steps.
func wipe(l []api.Step) {
	for _, x := range l {
		clear(x.T[:cap(x.T)])
		clear(x.Fields[:cap(x.Fields)])
	}
	clear(l[:cap(l)])
}

// R3: neither arguments nor their spare capacity are modified, and results share no memory with them or with other results.
func TestMemory(t *testing.T) {
	s, l := road()
	j, same := roomy(job{s[0], links(l[2], l[1], l[0]), s[3]})
	a, _ := Check(j.s, j.l, j.to)
	b, _ := Check(j.s, j.l, j.to)
	p, _ := Way(j.l, 1, 4)
	q, _ := Way(j.l, 1, 4)
	wipe(a)
	clear(p[:cap(p)])
	if !same() {
		t.Error("an argument was modified")
	}
	for _, x := range j.l {
		wipe(x.On)
	}
	clear(j.l)
	if want := slices.Concat(l[0].On, l[1].On, l[2].On); !sameSteps(b, want) || !slices.Equal(q, []int{2, 1, 0}) {
		t.Errorf("%v, %v: a result shares memory", b, q)
	}
	for _, bad := range faults() {
		j.s, j.l, j.to = chain(2, 2, 2, 2, 2, 2)
		bad.do(&j)
		j, same := roomy(j)
		if Check(j.s, j.l, j.to); !same() {
			t.Errorf("%s: an argument was modified", bad.name)
		}
	}
}

// R3: the lists of one result share no memory, even if those of the arguments do.
func TestLists(t *testing.T) {
	table, fields := []int{2, 0, 1}, []api.Field{boolean(1), text(2, 3)}
	s := version(1, form(7, pick(1, 3)))
	x := good(s, 2, api.Step{Op: 5, Form: 7, Field: 1, A: 3, T: table}, api.Step{Op: 5, Form: 7, Field: 1, A: 3, T: table}, api.Step{Op: 9, Form: 8, Fields: fields}, api.Step{Op: 9, Form: 9, Fields: fields})
	y := good(x.To, 3, api.Step{Op: 5, Form: 7, Field: 1, A: 3, T: table})
	got, e := Check(s, links(x, y), y.To)
	if e != api.OK || len(got) != 5 {
		t.Fatal(got, e)
	}
	clear(got[0].T)
	clear(got[2].Fields)
	want := []int{2, 0, 1}
	if !slices.Equal(got[1].T, want) || !slices.Equal(got[4].T, want) || !slices.Equal(table, want) || !slices.Equal(got[3].Fields, fields) || fields[0] != boolean(1) {
		t.Error("two lists share memory")
	}
	got[1].T = append(got[1].T, 99)
	got[0].T = append(got[0].T, 98)
	if got[1].T[3] != 99 || !slices.Equal(got[4].T, want) {
		t.Error("two lists share spare capacity")
	}
}

// R3: what is behind the end of a slice does not belong to it.
func TestEnds(t *testing.T) {
	s, l := road()
	if got, e := Check(s[0], l[:2], s[3]); e != api.ErrChain || got != nil {
		t.Errorf("a link behind the end: %v, %d", got, e)
	}
	if got, e := Way(edges(1, 2, 2, 3)[:1], 1, 3); e != api.ErrChain || got != nil {
		t.Errorf("a link behind the end: %v, %d", got, e)
	}
	if got, e := Way(make([]api.Link, 8, 20), 1, 1); e != api.OK || len(got) != 0 {
		t.Errorf("eight links with more behind them: %v, %d", got, e)
	}
	more := slices.Clone(l[0].On)
	c := l[0]
	c.On, c.Back = append(more, api.Step{Op: 99})[:len(more)], append(slices.Clone(c.Back), api.Step{Op: 99})[:len(c.Back)]
	if got, e := Check(s[0], links(c), s[1]); e != api.OK || !sameSteps(got, l[0].On) {
		t.Errorf("steps behind the end: %v, %d", got, e)
	}
}
