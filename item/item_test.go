package item

import (
	"math"
	"math/rand"
	"slices"
	"strings"
	"testing"

	"instar/api"
)

const first = 1 << 24 // the first key of a side item

func it(k uint32, data string) api.Item { return api.Item{Key: k, Data: data} }

func list(l ...api.Item) []api.Item { return l }

// keyed returns a list with the given keys, in which the items have different data.
func keyed(keys ...uint32) []api.Item {
	l := []api.Item{}
	for i, k := range keys {
		l = append(l, it(k, strings.Repeat("z", i)))
	}
	return l
}

// odd returns numbers that an overflow, or a conversion to fewer bits, could bring into bounds.
func odd() []int {
	return []int{math.MinInt, math.MinInt + 1, math.MinInt32, -1 << 40, -1 << 32, 1 - 1<<32, -1 << 24, -65537, -65536, -65535, -257, -256, -255, -201, -200, -2, -1,
		1 << 16, 1<<16 + 1, 1 << 24, math.MaxInt32, math.MaxUint32, 1 << 32, 1<<32 + 1, 1 << 40, 1 << 48, 1 << 62, math.MaxInt - 1, math.MaxInt}
}

// keys returns keys at the bounds of forms, records and steps.
func keys() []uint32 {
	l := []uint32{0, 1, 65535, 65536, 65537, 2*65536 - 1, first - 1, first, first + 1, 2*first - 1, 2 * first, 200*first - 1, 200 * first, 201*first - 1, 201 * first, math.MaxInt32, 1 << 31, math.MaxUint32}
	return append(l, 200*65536-1, 200*65536, 201*65536-1, 201*65536, first+201*65536-1, first+201*65536)
}

// lists returns all lists of at most n items with the given keys.
func lists(n int, keys ...uint32) [][]api.Item {
	all, last := [][]api.Item{nil, {}}, [][]uint32{nil}
	for range n {
		var next [][]uint32
		for _, l := range last {
			for _, k := range keys {
				longer := append(slices.Clone(l), k)
				next = append(next, longer)
				all = append(all, keyed(longer...))
			}
		}
		last = next
	}
	return all
}

// someList returns a random list, with at most n items and mostly with repeated keys.
func someList(r *rand.Rand, n int) []api.Item {
	l := []api.Item{}
	for range r.Intn(n + 1) {
		k := uint32(first - 5 + r.Intn(10))
		if r.Intn(4) == 0 {
			k = r.Uint32()
		}
		b := make([]byte, r.Intn(66))
		r.Read(b)
		l = append(l, it(k, string(b)))
	}
	if r.Intn(2) == 0 {
		slices.SortFunc(l, func(a, b api.Item) int { return int(a.Key) - int(b.Key) })
	}
	return l
}

// valid reports whether each item has short Data and a smaller key than every item behind it.
func valid(l []api.Item) bool {
	for i, x := range l {
		for _, y := range l[i+1:] {
			if y.Key <= x.Key {
				return false
			}
		}
		if len(x.Data) > 64 {
			return false
		}
	}
	return true
}

// checkMain compares Main with the definition.
func checkMain(t *testing.T, form, id int) {
	t.Helper()
	k, e := Main(form, id)
	if form < 0 || form > 200 || id < 0 || id > 65535 {
		if k != 0 || e != api.ErrArg {
			t.Errorf("Main(%d, %d) = %d, %d, not ErrArg", form, id, k, e)
		}
		return
	}
	if int64(k) != 65536*int64(form)+int64(id) || e != api.OK {
		t.Errorf("Main(%d, %d) = %d, %d", form, id, k, e)
	}
	if n, f, i := Told(k); n != -1 || f != form || i != id {
		t.Errorf("Told(Main(%d, %d)) = %d, %d, %d", form, id, n, f, i)
	}
}

// checkSide compares Side with the definition.
func checkSide(t *testing.T, n, form, id int) {
	t.Helper()
	k, e := Side(n, form, id)
	if n < 0 || n > 199 || form < 0 || form > 200 || id < 0 || id > 65535 {
		if k != 0 || e != api.ErrArg {
			t.Errorf("Side(%d, %d, %d) = %d, %d, not ErrArg", n, form, id, k, e)
		}
		return
	}
	if int64(k) != 16777216*(int64(n)+1)+65536*int64(form)+int64(id) || e != api.OK {
		t.Errorf("Side(%d, %d, %d) = %d, %d", n, form, id, k, e)
	}
	if a, f, i := Told(k); a != n || f != form || i != id {
		t.Errorf("Told(Side(%d, %d, %d)) = %d, %d, %d", n, form, id, a, f, i)
	}
}

// P18.1: keys that the chapter names, and those at the ends of the ranges.
func TestKeys(t *testing.T) {
	mains := []struct {
		form, id int
		want     uint32
	}{{3, 7, 196615}, {0, 0, 0}, {0, 1, 1}, {0, 65535, 65535}, {1, 0, 65536}, {200, 0, 13107200}, {200, 65535, 13172735}}
	for _, c := range mains {
		if k, e := Main(c.form, c.id); k != c.want || e != api.OK {
			t.Errorf("Main(%d, %d) = %d, %d, not %d", c.form, c.id, k, e, c.want)
		}
	}
	sides := []struct {
		n, form, id int
		want        uint32
	}{{0, 3, 7, 16973831}, {0, 0, 0, 16777216}, {1, 0, 0, 33554432}, {199, 0, 0, 3355443200}, {199, 200, 65535, 3368615935}, {127, 0, 1, 2147483649}}
	for _, c := range sides {
		if k, e := Side(c.n, c.form, c.id); k != c.want || e != api.OK {
			t.Errorf("Side(%d, %d, %d) = %d, %d, not %d", c.n, c.form, c.id, k, e, c.want)
		}
	}
}

// P18.1: every number, and every one that is out of range with others that are in range or not.
func TestRanges(t *testing.T) {
	for form := -3; form <= 260; form++ {
		for _, id := range append(odd(), 0, 1, 255, 256, 4095, 65534, 65535) {
			checkMain(t, form, id)
			for _, n := range []int{-1, 0, 1, 198, 199, 200} {
				checkSide(t, n, form, id)
			}
		}
	}
	for id := -3; id <= 65540; id++ {
		for _, form := range []int{-1, 0, 200, 201} {
			checkMain(t, form, id)
			checkSide(t, id%200, form, id)
		}
	}
	for n := -3; n <= 520; n++ {
		for _, form := range append(odd(), 0, 1, 200, 201, 255, 256) {
			for _, id := range []int{-1, 0, 65535, 65536} {
				checkSide(t, n, form, id)
			}
		}
	}
	for _, a := range odd() {
		for _, b := range odd() {
			checkMain(t, a, b)
			for _, n := range append(odd(), 0, 199) {
				checkSide(t, n, a, b)
			}
		}
		checkSide(t, a, 0, 0)
		checkSide(t, a, 200, 65535)
	}
}

// P18.1: any key, also one that neither Main nor Side returns.
func TestTold(t *testing.T) {
	tests := []struct {
		k           uint32
		n, form, id int
	}{
		{196615, -1, 3, 7}, {16973831, 0, 3, 7}, {0, -1, 0, 0}, {first - 1, -1, 255, 65535}, {first, 0, 0, 0}, {201 << 16, -1, 201, 0}, {first + 201<<16 + 9, 0, 201, 9},
		{200*first - 1, 198, 255, 65535}, {200 * first, 199, 0, 0}, {201 * first, 200, 0, 0}, {1 << 31, 127, 0, 0}, {math.MaxUint32, 254, 255, 65535},
	}
	for _, c := range tests {
		if n, form, id := Told(c.k); n != c.n || form != c.form || id != c.id {
			t.Errorf("Told(%d) = %d, %d, %d, not %d, %d, %d", c.k, n, form, id, c.n, c.form, c.id)
		}
	}
	r := rand.New(rand.NewSource(181))
	for i := range 200000 {
		k := r.Uint32()
		if i < len(keys()) {
			k = keys()[i]
		}
		n, form, id := Told(k)
		if n < -1 || form < 0 || form > 255 || id < 0 || id > 65535 || int64(n+1)*16777216+int64(form)*65536+int64(id) != int64(k) {
			t.Fatalf("Told(%d) = %d, %d, %d", k, n, form, id)
		}
	}
}

// P18.2: lists that are valid, and those that are not.
func TestRight(t *testing.T) {
	long, longer := strings.Repeat("\xff", 64), strings.Repeat("a", 65)
	tests := []struct {
		l    []api.Item
		want bool
	}{
		{nil, true}, {list(), true}, {list(it(0, "")), true}, {list(it(math.MaxUint32, long)), true}, {list(it(201<<16, "\x00")), true},
		{keyed(0, 1, 2), true}, {keyed(first-1, first), true}, {keyed(0, math.MaxUint32), true}, {keyed(math.MaxInt32, 1<<31), true},
		{keyed(1, 0), false}, {keyed(2, 2), false}, {keyed(0, 0), false}, {keyed(math.MaxUint32, math.MaxUint32), false}, {keyed(math.MaxUint32, 0), false}, {keyed(1<<31, math.MaxInt32), false},
		{keyed(1, 2, 2), false}, {keyed(1, 1, 2), false}, {keyed(1, 3, 2), false}, {keyed(1, 3, 2, 4), false}, {keyed(2, 1, 3), false}, {keyed(1, 2, 1), false},
		{list(it(1, longer)), false}, {list(it(1, longer), it(2, "")), false}, {list(it(1, ""), it(2, longer)), false}, {list(it(1, long), it(2, longer), it(3, long)), false},
		{list(it(1, long), it(2, long), it(3, long)), true}, {list(it(1, strings.Repeat("a", 1<<16))), false}, {list(it(1, strings.Repeat("é", 33))), false},
	}
	for _, c := range tests {
		if Right(c.l) != c.want {
			t.Errorf("Right(%v) is not %v", c.l, c.want)
		}
	}
	// A list with one key that is not in order, or with one item that is too long, at each place.
	l := []api.Item{}
	for i := range 300 {
		l = append(l, it(uint32(3*i), ""))
	}
	for i := range l {
		bad := slices.Clone(l)
		bad[i].Data = longer
		if !Right(l[:i]) || Right(bad) {
			t.Errorf("an item at %d is too long", i)
		}
		if i > 0 {
			bad = slices.Clone(l)
			bad[i].Key = bad[i-1].Key
			if Right(bad) {
				t.Errorf("the key at %d is repeated", i)
			}
		}
	}
}

// P18.2: lists that are equal, and those that differ in one item, in one place, or in their lengths.
func TestSame(t *testing.T) {
	if !Same(nil, nil) || !Same(nil, list()) || !Same(list(), nil) {
		t.Error("empty lists are not equal")
	}
	for _, l := range [][]api.Item{list(it(0, "")), list(it(5, "ab"), it(6, "c")), keyed(3, 1, 1, 2), keyed(keys()...)} {
		differ := func(other []api.Item) {
			t.Helper()
			if Same(l, other) || Same(other, l) {
				t.Errorf("%v and %v are equal", l, other)
			}
		}
		if !Same(l, slices.Clone(l)) {
			t.Errorf("%v is not equal to a copy", l)
		}
		for i, x := range l {
			for _, y := range list(it(x.Key^1, x.Data), it(x.Key^1<<31, x.Data), it(x.Key, x.Data+"\x00"), it(x.Key, "a"+x.Data), it(x.Key+65536, x.Data)) {
				differ(slices.Replace(slices.Clone(l), i, i+1, y))
			}
			if x.Data != "" {
				differ(slices.Replace(slices.Clone(l), i, i+1, it(x.Key, x.Data[1:])))
				differ(slices.Replace(slices.Clone(l), i, i+1, it(x.Key, x.Data[:len(x.Data)-1]+"?")))
			}
			if i > 0 && x != l[i-1] {
				differ(slices.Replace(slices.Clone(l), i-1, i+1, x, l[i-1]))
			}
			differ(slices.Delete(slices.Clone(l), i, i+1))
			differ(slices.Insert(slices.Clone(l), i, x))
			differ(l[:i])
			differ(l[i+1:])
		}
		differ(append(slices.Clone(l), it(0, "")))
	}
	all := lists(3, 0, 1, first)
	for i, a := range all {
		for k, b := range all {
			if Same(a, b) != (i == k || len(a)+len(b) == 0) {
				t.Errorf("Same(%v, %v) is %v", a, b, Same(a, b))
			}
		}
	}
}

// checkFind compares Find with the definition.
func checkFind(t *testing.T, l []api.Item, k uint32) {
	t.Helper()
	want, has := "", false
	for i := len(l) - 1; i >= 0; i-- {
		if l[i].Key == k {
			want, has = l[i].Data, true
		}
	}
	if got, ok := Find(l, k); got != want || ok != has {
		t.Errorf("Find(%v, %d) = %q, %v, not %q, %v", l, k, got, ok, want, has)
	}
}

// checkParts compares Mains and Sides with the definition.
func checkParts(t *testing.T, l []api.Item) {
	t.Helper()
	mains, sides := []api.Item{}, []api.Item{}
	for _, x := range l {
		if x.Key < 16777216 {
			mains = append(mains, x)
		} else {
			sides = append(sides, x)
		}
	}
	if got := Mains(l); !slices.Equal(got, mains) {
		t.Errorf("Mains(%v) = %v", l, got)
	}
	if got := Sides(l); !slices.Equal(got, sides) {
		t.Errorf("Sides(%v) = %v", l, got)
	}
}

// checkPut compares Put with the definition, and its result with P18.4.
func checkPut(t *testing.T, l []api.Item, x api.Item) {
	t.Helper()
	smaller, greater := []api.Item{}, []api.Item{}
	for _, y := range l {
		switch {
		case y.Key < x.Key:
			smaller = append(smaller, y)
		case y.Key > x.Key:
			greater = append(greater, y)
		}
	}
	got := Put(l, x)
	if !slices.Equal(got, slices.Concat(smaller, list(x), greater)) {
		t.Fatalf("Put(%v, %v) = %v", l, x, got)
	}
	if !valid(l) {
		return
	}
	if s, ok := Find(got, x.Key); !ok || s != x.Data {
		t.Errorf("Put(%v, %v): found %q, %v", l, x, s, ok)
	}
	if Right(got) != (len(x.Data) <= 64) {
		t.Errorf("Right(Put(%v, %v)) is %v", l, x, Right(got))
	}
	others(t, l, got, x.Key)
}

// checkCut compares Cut with the definition, and its result with P18.4.
func checkCut(t *testing.T, l []api.Item, k uint32) {
	t.Helper()
	want := []api.Item{}
	for _, y := range l {
		if y.Key != k {
			want = append(want, y)
		}
	}
	got, ok := Cut(l, k)
	if !slices.Equal(got, want) || ok != (len(want) != len(l)) {
		t.Fatalf("Cut(%v, %d) = %v, %v", l, k, got, ok)
	}
	if !valid(l) {
		return
	}
	if s, ok := Find(got, k); ok || s != "" {
		t.Errorf("Cut(%v, %d): found %q, %v", l, k, s, ok)
	}
	if !Right(got) {
		t.Errorf("Cut(%v, %d) = %v is not valid", l, k, got)
	}
	others(t, l, got, k)
}

// others compares all items of two lists but those with a key, in both directions.
func others(t *testing.T, before, after []api.Item, k uint32) {
	t.Helper()
	for _, x := range append(slices.Clone(before), after...) {
		a, inA := Find(before, x.Key)
		b, inB := Find(after, x.Key)
		if x.Key != k && (a != b || inA != inB) {
			t.Errorf("from %v to %v: item %d changed", before, after, x.Key)
		}
	}
}

// P18.2, P18.3: items at both ends of a list and between others, and keys that are missing or repeated.
func TestLists(t *testing.T) {
	a, b, c, side := it(3, "a"), it(5, ""), it(7, "c"), it(first, "d")
	l := list(a, b, c, side)
	puts := []struct {
		x    api.Item
		want []api.Item
	}{
		{it(0, "x"), list(it(0, "x"), a, b, c, side)}, {it(3, "x"), list(it(3, "x"), b, c, side)}, {it(4, ""), list(a, it(4, ""), b, c, side)}, {it(5, "x"), list(a, it(5, "x"), c, side)},
		{it(first, ""), list(a, b, c, it(first, ""))}, {it(first-1, "x"), list(a, b, c, it(first-1, "x"), side)}, {it(math.MaxUint32, "x"), list(a, b, c, side, it(math.MaxUint32, "x"))}, {b, l},
	}
	for _, p := range puts {
		if got := Put(l, p.x); !slices.Equal(got, p.want) {
			t.Errorf("Put(%v) = %v, not %v", p.x, got, p.want)
		}
	}
	if got := Put(keyed(5, 9, 5, 1, 7, 5, 2), it(5, "x")); !slices.Equal(got, list(it(1, "zzz"), it(2, "zzzzzz"), it(5, "x"), it(9, "z"), it(7, "zzzz"))) {
		t.Errorf("Put into a list that is not valid: %v", got)
	}
	cuts := []struct {
		k    uint32
		want []api.Item
		has  bool
	}{{3, list(b, c, side), true}, {5, list(a, c, side), true}, {7, list(a, b, side), true}, {first, list(a, b, c), true}, {0, l, false}, {4, l, false}, {first + 3, l, false}, {math.MaxUint32, l, false}}
	for _, c := range cuts {
		if got, ok := Cut(l, c.k); !slices.Equal(got, c.want) || ok != c.has {
			t.Errorf("Cut(%d) = %v, %v, not %v, %v", c.k, got, ok, c.want, c.has)
		}
	}
	if got, ok := Cut(keyed(5, 9, 5, 1, 5), 5); !ok || !slices.Equal(got, list(it(9, "z"), it(1, "zzz"))) {
		t.Errorf("Cut of a repeated key: %v, %v", got, ok)
	}
	if got, ok := Find(l, 5); got != "" || !ok {
		t.Errorf("an empty string: %q, %v", got, ok)
	}
	if got, ok := Find(keyed(2, 5, 1, 5), 5); got != "z" || !ok {
		t.Errorf("a repeated key: %q, %v", got, ok)
	}
	if got, ok := Find(l, 6); got != "" || ok {
		t.Errorf("a missing key: %q, %v", got, ok)
	}
	mixed := list(side, c, it(first-1, "y"), it(math.MaxUint32, ""), a, it(1<<31, "s"), c)
	if got := Mains(mixed); !slices.Equal(got, list(c, it(first-1, "y"), a, c)) {
		t.Errorf("Mains: %v", got)
	}
	if got := Sides(mixed); !slices.Equal(got, list(side, it(math.MaxUint32, ""), it(1<<31, "s"))) {
		t.Errorf("Sides: %v", got)
	}
	if got, ok := Cut(nil, 0); len(got) > 0 || ok || len(Mains(nil)) > 0 || len(Sides(nil)) > 0 {
		t.Error("an empty list")
	}
	if got := Put(nil, a); !slices.Equal(got, list(a)) {
		t.Errorf("Put into an empty list: %v", got)
	}
}

// checkAll compares all functions of a list with the definitions, for some keys.
func checkAll(t *testing.T, l []api.Item, keys []uint32, data ...string) {
	t.Helper()
	if Right(l) != valid(l) {
		t.Errorf("Right(%v) is %v", l, Right(l))
	}
	checkParts(t, l)
	for _, k := range keys {
		checkFind(t, l, k)
		checkCut(t, l, k)
		for _, s := range data {
			checkPut(t, l, it(k, s))
		}
	}
}

// P18.2 to P18.4: all short lists, and long ones with keys at all bounds.
func TestAllLists(t *testing.T) {
	data := []string{"", "new", strings.Repeat("n", 64), strings.Repeat("n", 65)}
	for _, l := range lists(5, 4, first-1, first, math.MaxUint32) {
		checkAll(t, l, []uint32{0, 4, 5, first - 1, first, first + 1, math.MaxUint32}, data...)
	}
	sorted := slices.Sorted(slices.Values(keys()))
	for i := range sorted {
		checkAll(t, keyed(sorted[i:]...), sorted, data...)
		checkAll(t, keyed(sorted[:i]...), sorted, data...)
		checkAll(t, keyed(slices.Delete(slices.Clone(sorted), i, i+1)...), sorted, data...)
	}
}

// P18.2 to P18.4: random lists, valid or not.
func TestRandom(t *testing.T) {
	r := rand.New(rand.NewSource(182))
	for range 3000 {
		l := someList(r, 12)
		some := []uint32{r.Uint32()}
		for _, x := range l {
			some = append(some, x.Key, x.Key+1)
		}
		checkAll(t, l, some, "", strings.Repeat("n", 60+r.Intn(8)))
	}
}

// P18.4: a long run of puts and cuts, against a map.
func TestRun(t *testing.T) {
	r := rand.New(rand.NewSource(183))
	var l []api.Item
	want := map[uint32]string{}
	for range 20000 {
		k, _ := Main(r.Intn(3), r.Intn(20))
		if r.Intn(2) == 0 {
			k, _ = Side(r.Intn(2), r.Intn(3), r.Intn(20))
		}
		old, had := want[k]
		if s, ok := Find(l, k); s != old || ok != had {
			t.Fatalf("Find(%d) = %q, %v, not %q, %v", k, s, ok, old, had)
		}
		if r.Intn(2) == 0 {
			var ok bool
			if l, ok = Cut(l, k); ok != had {
				t.Fatalf("Cut(%d) is %v", k, ok)
			}
			delete(want, k)
		} else {
			s := strings.Repeat("x", r.Intn(65))
			l = Put(l, it(k, s))
			want[k] = s
		}
		if !Right(l) || len(l) != len(want) || len(Mains(l))+len(Sides(l)) != len(l) {
			t.Fatalf("%v, not %v", l, want)
		}
		for _, x := range l {
			if s, ok := want[x.Key]; !ok || s != x.Data {
				t.Fatalf("%v: %v, %v", x, s, ok)
			}
		}
	}
}

// roomy returns a copy with spare capacity behind it, and a function that reports whether neither it nor the capacity has been modified.
func roomy(l []api.Item) ([]api.Item, func() bool) {
	whole := append(slices.Clone(l), keyed(4, 1, first)...)
	old := slices.Clone(whole)
	return whole[:len(l)], func() bool { return slices.Equal(whole, old) }
}

// results returns the lists that functions return for a list and a key.
func results(l []api.Item, k uint32) [][]api.Item {
	rest, _ := Cut(l, k)
	return [][]api.Item{Put(l, it(k, "new")), rest, Mains(l), Sides(l)}
}

// R3: neither arguments nor their spare capacity are modified, and results share no memory with them or with other results.
func TestMemory(t *testing.T) {
	for _, l := range [][]api.Item{nil, keyed(7), keyed(3, 5, 7), keyed(first, first+7), keyed(3, 7, first, first+7), keyed(7, 7), keyed(7, first, 3)} {
		for _, k := range []uint32{0, 3, 4, 7, 8, first, first + 7, math.MaxUint32} {
			arg, same := roomy(l)
			a, b := results(arg, k), results(arg, k)
			want := results(slices.Clone(l), k)
			Find(arg, k)
			Same(arg, a[0])
			Right(arg)
			if !same() {
				t.Fatalf("%v, %d: an argument was modified", l, k)
			}
			for i := range a {
				clear(a[i][:cap(a[i])])
				for j := range a {
					if !same() || !slices.Equal(b[j], want[j]) || j > i && !slices.Equal(a[j], want[j]) {
						t.Fatalf("%v, %d: result %d shares memory", l, k, i)
					}
				}
			}
			clear(arg[:cap(arg)])
			for i := range b {
				if !slices.Equal(b[i], want[i]) {
					t.Fatalf("%v, %d: result %d shares memory with its argument", l, k, i)
				}
			}
		}
	}
}

// R3: what is behind the end of a list does not belong to it.
func TestEnds(t *testing.T) {
	whole := keyed(3, 5, 2, first)
	l := whole[:2]
	if _, ok := Find(l, 2); ok || !Right(l) || Right(whole) || Same(l, whole) || len(Mains(l)) != 2 || len(Sides(l)) != 0 {
		t.Error("an item behind the end")
	}
	if rest, ok := Cut(l, 2); ok || !slices.Equal(rest, l) {
		t.Errorf("Cut: %v, %v", rest, ok)
	}
	if got := Put(l, it(4, "x")); !slices.Equal(got, list(it(3, ""), it(4, "x"), it(5, "z"))) {
		t.Errorf("Put: %v", got)
	}
}

// P18.2, P18.3: a list of many items.
func TestLong(t *testing.T) {
	l := []api.Item{}
	for i := range 100000 {
		l = append(l, it(uint32(i)*400, "ab"))
	}
	checkParts(t, l)
	if !Right(l) || !Same(l, slices.Clone(l)) {
		t.Error("a long list is not valid, or not equal to a copy")
	}
	for _, i := range []int{0, 1, 41943, 41944, 99998, 99999} {
		checkFind(t, l, l[i].Key)
		rest, ok := Cut(l, l[i].Key)
		if !ok || !slices.Equal(rest, slices.Delete(slices.Clone(l), i, i+1)) {
			t.Errorf("Cut of item %d", i)
		}
		if !slices.Equal(Put(rest, l[i]), l) {
			t.Errorf("Put of item %d", i)
		}
	}
}
