package box

import (
	"math"
	"slices"
	"testing"
)

// filled returns a box with the given capacity, into which the elements were put.
func filled[T any](t *testing.T, room int, l ...T) *Box[T] {
	t.Helper()
	b := New[T](room)
	for i, x := range l {
		if !b.Put(x) {
			t.Fatalf("Put of element %d is false, with capacity %d", i, room)
		}
	}
	return b
}

// checkHolds checks the length, the capacity and, by taking them, the elements of a box.
func checkHolds[T comparable](t *testing.T, b *Box[T], room int, want ...T) {
	t.Helper()
	if b.Len() != len(want) || b.Room() != room {
		t.Errorf("Len is %d and Room %d, not %d and %d", b.Len(), b.Room(), len(want), room)
	}
	for i, w := range want {
		if x, ok := b.Take(); x != w || !ok {
			t.Errorf("Take of element %d is %v, %t, not %v", i, x, ok, w)
		}
		if b.Len() != len(want)-i-1 || b.Room() != room {
			t.Errorf("Len is %d and Room %d behind element %d of %d", b.Len(), b.Room(), i, len(want))
		}
	}
	for range 2 {
		if x, ok := b.Take(); x != *new(T) || ok {
			t.Errorf("Take of an empty box is %v, %t", x, ok)
		}
	}
	if b.Len() != 0 || b.Room() != room {
		t.Errorf("Len is %d and Room %d of an empty box, not 0 and %d", b.Len(), b.Room(), room)
	}
}

// P6.1
func TestMost(t *testing.T) {
	if Most != 64 {
		t.Errorf("Most is %d, not 64", Most)
	}
}

// P6.1: every capacity, and those that are too small or too large.
func TestRoom(t *testing.T) {
	rooms := []struct{ asked, got int }{
		{math.MinInt, 0}, {math.MinInt32, 0}, {-65, 0}, {-64, 0}, {-2, 0}, {-1, 0},
		{65, 64}, {66, 64}, {100, 64}, {128, 64}, {1000000, 64}, {math.MaxInt32, 64}, {1 << 32, 64}, {math.MaxInt, 64},
	}
	for n := range 65 {
		rooms = append(rooms, struct{ asked, got int }{n, n})
	}
	for _, r := range rooms {
		b := New[int](r.asked)
		checkHolds(t, b, r.got)
		var l []int
		for x := 1; x <= r.got; x++ {
			l = append(l, x)
			if !b.Put(x) || b.Len() != x || b.Room() != r.got {
				t.Errorf("New(%d): after Put of element %d, Len is %d and Room %d", r.asked, x, b.Len(), b.Room())
			}
		}
		for range 3 {
			if b.Put(-1) {
				t.Errorf("New(%d): Put into a full box of %d is true", r.asked, r.got)
			}
		}
		checkHolds(t, b, r.got, l...)
	}
}

// P6.1: the example of the chapter.
func TestExample(t *testing.T) {
	b := New[int](2)
	if !b.Put(1) || !b.Put(2) || b.Put(3) {
		t.Error("the answers of Put of 1, 2 and 3 are not true, true and false")
	}
	checkHolds(t, b, 2, 1, 2)
}

// P6.1: a Put that failed leaves nothing behind, also once there is room again.
func TestPutIntoFull(t *testing.T) {
	b := filled(t, 2, "a", "b")
	if b.Put("c") {
		t.Error("Put into a full box is true")
	}
	if x, ok := b.Take(); x != "a" || !ok {
		t.Errorf("Take is %q, %t", x, ok)
	}
	if !b.Put("d") || b.Put("e") {
		t.Error("not exactly one element fits after one was taken")
	}
	checkHolds(t, b, 2, "b", "d")
}

// P6.1: a box goes on after it was emptied.
func TestTakeFromEmpty(t *testing.T) {
	b := New[string](1)
	for range 3 {
		if x, ok := b.Take(); x != "" || ok {
			t.Errorf("Take of an empty box is %q, %t", x, ok)
		}
		if !b.Put("a") || b.Put("b") {
			t.Error("not exactly one element fits")
		}
		if x, ok := b.Take(); x != "a" || !ok {
			t.Errorf("Take is %q, %t", x, ok)
		}
	}
}

// P6.1
func TestNilBox(t *testing.T) {
	var b *Box[string]
	for range 2 {
		if b.Put("a") {
			t.Error("Put into nil is true")
		}
		checkHolds(t, b, 0)
	}
}

// P6.1: an element is told from none, also where it is a zero value.
func TestZeroElements(t *testing.T) {
	checkHolds(t, filled(t, 3, 0, 0, 1), 3, 0, 0, 1)
	checkHolds(t, filled(t, 2, "", "a"), 2, "", "a")
	checkHolds(t, filled(t, 2, false, true), 2, false, true)
	checkHolds(t, filled(t, 2, struct{}{}, struct{}{}), 2, struct{}{}, struct{}{})
	checkHolds(t, filled[*int](t, 2, nil, nil), 2, nil, nil)
	checkHolds(t, filled[any](t, 3, nil, 0, ""), 3, nil, 0, "")
	if l := All(filled[error](t, 2, nil, nil)); len(l) != 2 {
		t.Errorf("All returns %d nil errors, not 2", len(l))
	}
	if x, k := First(New[*int](1), filled[*int](t, 1, nil)); x != nil || k != 2 {
		t.Errorf("First of a nil pointer is %v, %d", x, k)
	}
}

// P6.1: elements may be larger than those of a channel.
func TestLargeElements(t *testing.T) {
	type large [1<<16 + 1]byte
	x, y := large{0: 1, 1 << 16: 2}, large{0: 3, 1 << 16: 4}
	b := New[large](2)
	if !b.Put(x) || !b.Put(y) || b.Put(x) {
		t.Error("not exactly two large elements fit")
	}
	if z, ok := b.Take(); z != x || !ok {
		t.Error("Take is not the first large element")
	}
	if z, k := First(nil, b); z != y || k != 2 {
		t.Error("First is not the second large element")
	}
	if z, ok := b.Take(); z != (large{}) || ok {
		t.Error("Take of an empty box is not the zero value")
	}
}

// P6.1, R3: an element is what it was when it was put, and what it refers to is not copied.
func TestElementsAsTheyWere(t *testing.T) {
	b := New[[2]int](2)
	x := [2]int{1, 2}
	b.Put(x)
	x[0] = 9
	b.Put(x)
	x[1] = 9
	checkHolds(t, b, 2, [2]int{1, 2}, [2]int{9, 2})
	n := 5
	checkHolds(t, filled(t, 2, &n, &n), 2, &n, &n)
	l := []int{1, 2}
	c := filled(t, 1, l)
	l[1] = 7
	if got, ok := c.Take(); !ok || !slices.Equal(got, l) || &got[0] != &l[0] {
		t.Errorf("Take is %v, %t, not the list that was put", got, ok)
	}
}

// P6.1, R4: boxes have nothing in common.
func TestBoxesApart(t *testing.T) {
	a, b := New[int](2), New[int](2)
	a.Put(1)
	if b.Len() != 0 {
		t.Errorf("Len is %d after Put into another box", b.Len())
	}
	b.Put(2)
	a.Put(3)
	checkHolds(t, a, 2, 1, 3)
	checkHolds(t, b, 2, 2)
}

// P6.2
func TestFirst(t *testing.T) {
	for _, x := range []struct {
		a, b         []string // nil: the box is nil
		want         string
		from         int
		leftA, leftB []string
	}{
		{[]string{"a", "b"}, []string{"x", "y"}, "a", 1, []string{"b"}, []string{"x", "y"}},
		{[]string{"a"}, []string{"x"}, "a", 1, nil, []string{"x"}},
		{[]string{"a"}, []string{}, "a", 1, nil, nil},
		{[]string{"a"}, nil, "a", 1, nil, nil},
		{[]string{""}, []string{"x"}, "", 1, nil, []string{"x"}},
		{[]string{}, []string{"x", "y"}, "x", 2, nil, []string{"y"}},
		{nil, []string{"x", "y"}, "x", 2, nil, []string{"y"}},
		{[]string{}, []string{""}, "", 2, nil, nil},
		{[]string{}, []string{}, "", 0, nil, nil},
		{[]string{}, nil, "", 0, nil, nil},
		{nil, []string{}, "", 0, nil, nil},
		{nil, nil, "", 0, nil, nil},
	} {
		a, roomA := boxOf(t, x.a)
		b, roomB := boxOf(t, x.b)
		if got, k := First(a, b); got != x.want || k != x.from {
			t.Errorf("First of %q and %q is %q, %d, not %q, %d", x.a, x.b, got, k, x.want, x.from)
		}
		checkHolds(t, a, roomA, x.leftA...)
		checkHolds(t, b, roomB, x.leftB...)
	}
}

// boxOf returns a box of the elements with its capacity: one more than there are, or nil and 0 for a nil list.
func boxOf(t *testing.T, l []string) (*Box[string], int) {
	t.Helper()
	if l == nil {
		return nil, 0
	}
	return filled(t, len(l)+1, l...), len(l) + 1
}

// P6.2: one box as both arguments.
func TestFirstOfOneBox(t *testing.T) {
	b := filled(t, 2, 7, 8)
	for _, want := range []int{7, 8} {
		if x, k := First(b, b); x != want || k != 1 {
			t.Errorf("First is %d, %d, not %d, 1", x, k, want)
		}
	}
	if x, k := First(b, b); x != 0 || k != 0 {
		t.Errorf("First of an empty box is %d, %d", x, k)
	}
}

// P6.2
func TestAll(t *testing.T) {
	for n := range Most + 1 {
		var want []int
		for x := range n {
			want = append(want, 3*x)
		}
		for _, room := range []int{n, Most} {
			b := filled(t, room, want...)
			for range 2 { // the second time with other elements, around the end of the memory
				if l := All(b); !slices.Equal(l, want) || b.Len() != 0 || b.Room() != room {
					t.Errorf("All is %v, then Len %d and Room %d, not %v, 0 and %d", l, b.Len(), b.Room(), want, room)
				}
				if l := All(b); len(l) != 0 {
					t.Errorf("All of an empty box is %v", l)
				}
				for i := range want {
					want[i]++
					b.Put(want[i])
				}
			}
		}
	}
}

// P6.2
func TestAllOfNil(t *testing.T) {
	if l := All[int](nil); len(l) != 0 {
		t.Errorf("All of nil is %v", l)
	}
	if l := All(New[int](-1)); len(l) != 0 {
		t.Errorf("All of a box with capacity 0 is %v", l)
	}
}

// P6.2, R3: the list of all elements is new memory.
func TestAllIsNew(t *testing.T) {
	b := filled(t, 3, 1, 2, 3)
	l := All(b)
	for _, x := range []int{4, 5, 6} {
		b.Put(x)
	}
	l = append(l, 10)
	l[0] = 11
	m := All(b)
	if !slices.Equal(l, []int{11, 2, 3, 10}) || !slices.Equal(m, []int{4, 5, 6}) {
		t.Errorf("the lists are %v and %v", l, m)
	}
}

// A model is a box as a list.
type model struct {
	room int
	l    []int
}

func (m *model) put(x int) bool {
	if len(m.l) >= m.room {
		return false
	}
	m.l = append(m.l, x)
	return true
}

func (m *model) take() (int, bool) {
	if len(m.l) == 0 {
		return 0, false
	}
	x := m.l[0]
	m.l = m.l[1:]
	return x, true
}

func (m *model) all() []int {
	l := m.l
	m.l = nil
	return l
}

// first is First of two models.
func first(a, b *model) (int, int) {
	if x, ok := a.take(); ok {
		return x, 1
	}
	if x, ok := b.take(); ok {
		return x, 2
	}
	return 0, 0
}

// calls is how many calls there are on two boxes: four on each, of which First has the other one as its second argument.
const calls = 8

// checkCall makes call k on the boxes and on the models, checks that they answer the same, and returns the elements that were taken.
func checkCall(t *testing.T, boxes [2]*Box[int], models [2]*model, k, x int) (taken []int) {
	t.Helper()
	i, j := k%2, 1-k%2
	switch k / 2 {
	case 0:
		if got, want := boxes[i].Put(x), models[i].put(x); got != want {
			t.Fatalf("Put is %t, not %t", got, want)
		}
	case 1:
		got, ok := boxes[i].Take()
		if want, is := models[i].take(); got != want || ok != is {
			t.Fatalf("Take is %d, %t, not %d, %t", got, ok, want, is)
		}
		if ok {
			taken = []int{got}
		}
	case 2:
		got, from := First(boxes[i], boxes[j])
		if want, is := first(models[i], models[j]); got != want || from != is {
			t.Fatalf("First is %d, %d, not %d, %d", got, from, want, is)
		}
		if from > 0 {
			taken = []int{got}
		}
	case 3:
		taken = All(boxes[i])
		if want := models[i].all(); !slices.Equal(taken, want) {
			t.Fatalf("All is %v, not %v", taken, want)
		}
	}
	for i, m := range models {
		if boxes[i].Len() != len(m.l) || boxes[i].Room() != m.room {
			t.Fatalf("Len is %d and Room %d, not %d and %d", boxes[i].Len(), boxes[i].Room(), len(m.l), m.room)
		}
	}
	return taken
}

// P6.1, P6.2, P6.3: every sequence of a few calls on two small boxes.
func TestEverySequence(t *testing.T) {
	const length = 5
	count := 1
	for range length {
		count *= calls
	}
	for _, rooms := range [][2]int{{0, 0}, {0, 1}, {1, 0}, {1, 1}, {2, 1}, {1, 2}, {2, 3}} {
		for s := range count {
			boxes := [2]*Box[int]{New[int](rooms[0]), New[int](rooms[1])}
			models := [2]*model{{room: rooms[0]}, {room: rooms[1]}}
			for x := 1; x <= length; x++ {
				checkCall(t, boxes, models, s%calls, x)
				s /= calls
			}
		}
	}
}

// P6.3: in a long run, every element that went in comes out once, in order.
func TestOrder(t *testing.T) {
	for room := range Most + 1 {
		b := New[int](room)
		var in, out []int
		seed := uint32(room)
		for x := range 4000 {
			seed = seed*1664525 + 1013904223
			switch k := seed >> 24; {
			case k < 130:
				if b.Put(x) {
					in = append(in, x)
				}
			case k < 200:
				if y, ok := b.Take(); ok {
					out = append(out, y)
				}
			case k < 254:
				if y, from := First(nil, b); from > 0 {
					out = append(out, y)
				}
			default:
				out = append(out, All(b)...)
			}
		}
		out = append(out, All(b)...)
		if !slices.Equal(in, out) || (room > 0 && len(in) < 1000) {
			t.Errorf("capacity %d: %d elements went in, and %d came out, or others", room, len(in), len(out))
		}
	}
}

// P6.3: of two boxes too, none is lost and none comes twice, each box in its order.
func TestOrderOfTwo(t *testing.T) {
	boxes := [2]*Box[int]{New[int](Most), New[int](5)}
	models := [2]*model{{room: Most}, {room: 5}}
	var in, out []int
	seed := uint32(1)
	for x := range 100000 {
		seed = seed*1664525 + 1013904223
		k := int(seed>>28) % (calls + 4)
		if k >= calls {
			k %= 2 // Put more often than the others, so that the boxes fill up
		}
		if k < 2 && len(models[k].l) < models[k].room {
			in = append(in, x)
		}
		out = append(out, checkCall(t, boxes, models, k, x)...)
	}
	for _, b := range boxes {
		out = append(out, All(b)...)
	}
	slices.Sort(out)
	if !slices.Equal(in, out) {
		t.Errorf("%d elements went in, and %d came out, or others", len(in), len(out))
	}
}
