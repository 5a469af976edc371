package texts

import (
	"encoding/hex"
	"math"
	"math/big"
	"regexp"
	"slices"
	"strings"
	"testing"
	"unsafe"

	"instar/api"
)

// strung returns every string of at most n of the pieces, the empty one included.
func strung(n int, pieces ...string) []string {
	all := []string{""}
	last := all
	for range n {
		var next []string
		for _, s := range last {
			for _, p := range pieces {
				next = append(next, s+p)
			}
		}
		all = append(all, next...)
		last = next
	}
	return all
}

// sameLines tells whether two lists have the same words in each line.
func sameLines(a, b [][]string) bool { return slices.EqualFunc(a, b, slices.Equal[[]string]) }

// shared tells whether two strings have a byte of memory in common.
func shared(a, b string) bool {
	if a == "" || b == "" {
		return false
	}
	x, y := uintptr(unsafe.Pointer(unsafe.StringData(a))), uintptr(unsafe.Pointer(unsafe.StringData(b)))
	return x < y+uintptr(len(b)) && y < x+uintptr(len(a))
}

// numbers have their texts beside them.
var numbers = []struct {
	n int
	s string
}{
	{0, "0"},
	{1, "1"},
	{-1, "-1"},
	{9, "9"},
	{10, "10"},
	{-12, "-12"},
	{100, "100"},
	{4294967296, "4294967296"},
	{-4294967297, "-4294967297"},
	{math.MaxInt64, "9223372036854775807"},
	{math.MinInt64, "-9223372036854775808"},
	{math.MinInt64 + 1, "-9223372036854775807"},
	{1000000000000000000, "1000000000000000000"},
}

// P4.1
func TestDecAndRead(t *testing.T) {
	for _, x := range numbers {
		if s := Dec(x.n); s != x.s {
			t.Errorf("Dec(%d) is %q, not %q", x.n, s, x.s)
		}
		if n, e := Read(x.s); n != x.n || e != api.OK {
			t.Errorf("Read(%q) is %d, %d, not %d", x.s, n, e, x.n)
		}
	}
}

// P4.1
func TestReadOfNoNumber(t *testing.T) {
	for _, s := range []string{
		"", "-", "--1", "-0", "00", "01", "-01", "+1", "+0", " 1", "1 ", "1\n", "1.", "1e3", "0x1", "1_0", "1a", "a", "1-", "1\x00", "１", "−1",
		"9223372036854775808", "-9223372036854775809", "18446744073709551616", "18446744073709551617",
		strings.Repeat("9", 1000), "-" + strings.Repeat("1", 1000), strings.Repeat("0", 1000) + "1",
	} {
		if n, e := Read(s); n != 0 || e != api.ErrForm {
			t.Errorf("Read(%q) is %d, %d, not ErrForm", s, n, e)
		}
	}
}

// P4.1, P4.4
func TestReadOfShortStrings(t *testing.T) {
	form := regexp.MustCompile(`\A(0|-?[1-9][0-9]*)\z`)
	for _, s := range strung(4, "0", "1", "7", "9", "-", "+", " ", "_", "a", "\n") {
		n, e := Read(s)
		if !form.MatchString(s) {
			if n != 0 || e != api.ErrForm {
				t.Errorf("Read(%q) is %d, %d, not ErrForm", s, n, e)
			}
			continue
		}
		want, _ := new(big.Int).SetString(s, 10)
		if e != api.OK || int64(n) != want.Int64() {
			t.Errorf("Read(%q) is %d, %d", s, n, e)
		}
		if Dec(n) != s {
			t.Errorf("Dec(Read(%q)) is %q", s, Dec(n))
		}
	}
}

// P4.4
func TestReadOfDec(t *testing.T) {
	check := func(n int) {
		if m, e := Read(Dec(n)); m != n || e != api.OK {
			t.Errorf("Read(Dec(%d)) is %d, %d", n, m, e)
		}
	}
	for n := -1100; n <= 1100; n++ {
		check(n)
	}
	for i := range 64 {
		for d := -2; d <= 2; d++ {
			check(1<<i + d)
			check(-1<<i + d)
		}
	}
	for n := 1; n <= math.MaxInt64/10; n *= 10 {
		for d := -1; d <= 1; d++ {
			check(n + d)
			check(-n + d)
		}
	}
}

// P4.2
func TestHexAndUnhex(t *testing.T) {
	for _, x := range []struct{ b, s string }{
		{"", "-"},
		{"\x00", "00"},
		{"\x00\xab", "00ab"},
		{"\xff\x01", "ff01"},
		{"\x01\x23\x45\x67\x89\xab\xcd\xef", "0123456789abcdef"},
		{"-", "2d"},
		{"a\n", "610a"},
		{"é", "c3a9"},
	} {
		if s := Hex(x.b); s != x.s {
			t.Errorf("Hex(%q) is %q, not %q", x.b, s, x.s)
		}
		if b, e := Unhex(x.s); b != x.b || e != api.OK {
			t.Errorf("Unhex(%q) is %q, %d, not %q", x.s, b, e, x.b)
		}
	}
}

// P4.2
func TestUnhexOfNoBytes(t *testing.T) {
	for _, s := range []string{
		"", "0", "f", "000", "0G", "g0", "--", "-0", "0-", "-00", "00-", "00--", "---", "AB", "aB", "Ab", " 00", "00 ", "0 0", "00\n", "0x00",
		"00 00", "0:", "/0", "0`", "00é", "é", "\xff\xff", "00000000000000000000000000000g",
	} {
		if b, e := Unhex(s); b != "" || e != api.ErrForm {
			t.Errorf("Unhex(%q) is %q, %d, not ErrForm", s, b, e)
		}
	}
}

// P4.2, P4.4
func TestUnhexOfEveryPair(t *testing.T) {
	form := regexp.MustCompile(`\A[0-9a-f]{2}\z`)
	for x := range 1 << 16 {
		pair := string([]byte{byte(x >> 8), byte(x)})
		valid := form.MatchString(pair)
		for _, s := range []string{pair, "7e" + pair, pair + "7e"} {
			b, e := Unhex(s)
			if !valid {
				if b != "" || e != api.ErrForm {
					t.Fatalf("Unhex(%q) is %q, %d, not ErrForm", s, b, e)
				}
				continue
			}
			want, _ := hex.DecodeString(s)
			if b != string(want) || e != api.OK || Hex(b) != s {
				t.Fatalf("Unhex(%q) is %q, %d, and Hex of it %q", s, b, e, Hex(b))
			}
		}
	}
}

// P4.2, P4.4
func TestUnhexOfHex(t *testing.T) {
	var all []byte
	for x := range 256 {
		all = append(all, byte(x))
	}
	for n := range len(all) + 1 {
		for _, b := range []string{string(all[:n]), string(all[n:])} {
			s := Hex(b)
			if b != "" && s != hex.EncodeToString([]byte(b)) {
				t.Fatalf("Hex(%q) is %q", b, s)
			}
			if c, e := Unhex(s); c != b || e != api.OK {
				t.Fatalf("Unhex(Hex(%q)) is %q, %d", b, c, e)
			}
		}
	}
}

// P4.3, P4.4
func TestLinesAndJoin(t *testing.T) {
	for _, x := range []struct {
		s string
		l [][]string
	}{
		{"", nil},
		{"", [][]string{}},
		{"a\n", [][]string{{"a"}}},
		{"a b\n", [][]string{{"a", "b"}}},
		{"a b\nc\n", [][]string{{"a", "b"}, {"c"}}},
		{"a\na\na\n", [][]string{{"a"}, {"a"}, {"a"}}},
		{"! ~\n", [][]string{{"!", "~"}}},
		{"put 1 2 -\n- 00ab\n", [][]string{{"put", "1", "2", "-"}, {"-", "00ab"}}},
		{strings.Repeat("w ", 999) + "w\n", [][]string{slices.Repeat([]string{"w"}, 1000)}},
		{strings.Repeat("word\n", 1000), slices.Repeat([][]string{{"word"}}, 1000)},
	} {
		l, n, e := Lines(x.s)
		if !sameLines(l, x.l) || n != 0 || e != api.OK {
			t.Errorf("Lines(%q) is %q, %d, %d", x.s, l, n, e)
		}
		if s, e := Join(x.l); s != x.s || e != api.OK {
			t.Errorf("Join(%q) is %q, %d", x.l, s, e)
		}
	}
}

// P4.3
func TestLinesOfNoText(t *testing.T) {
	for _, x := range []struct {
		s string
		n int
	}{
		{"a b", 1},
		{"a", 1},
		{" ", 1},
		{"\n", 1},
		{"\n\n", 1},
		{" \n", 1},
		{" a\n", 1},
		{"a \n", 1},
		{"a  b\n", 1},
		{"a\tb\n", 1},
		{"a\r\n", 1},
		{"a\x00\n", 1},
		{"a\x1f\n", 1},
		{"a\x7f\n", 1},
		{"é\n", 1},
		{"a\x80\n", 1},
		{"a\xff\n", 1},
		{"a\u2028b\n", 1},
		{"a\n\n", 2},
		{"a\nb", 2},
		{"a\nb c", 2},
		{"a\n b\nc\n", 2},
		{"a\nb\x7f\n", 2},
		{"a\n\nb", 2},
		{"a\n \n\n", 2},
		{"\na\n", 1},
		{strings.Repeat("a b\n", 1000) + "a b", 1001},
		{strings.Repeat("a b\n", 1000) + "\n" + "a\n", 1001},
		{strings.Repeat("a b\n", 1000) + strings.Repeat("a ", 1000) + "\n", 1001},
	} {
		if l, n, e := Lines(x.s); l != nil || n != x.n || e != api.ErrForm {
			t.Errorf("Lines(%q) is %q, %d, %d, not %d, ErrForm", x.s, l, n, e, x.n)
		}
	}
}

// P4.3, P4.4
func TestLinesOfShortStrings(t *testing.T) {
	valid := regexp.MustCompile(`\A([!-~]+( [!-~]+)*\n)*`)
	for _, s := range strung(5, "!", "~", " ", "\n", "\x7f", "\x1f", "\xe9", "é") {
		l, n, e := Lines(s)
		start := valid.FindString(s)
		if start != s {
			if want := strings.Count(start, "\n") + 1; l != nil || n != want || e != api.ErrForm {
				t.Fatalf("Lines(%q) is %q, %d, %d, not %d, ErrForm", s, l, n, e, want)
			}
			continue
		}
		if n != 0 || e != api.OK {
			t.Fatalf("Lines(%q) is %d, %d, not OK", s, n, e)
		}
		if back, e := Join(l); back != s || e != api.OK {
			t.Fatalf("Join(Lines(%q)) is %q, %d", s, back, e)
		}
	}
}

// P4.3, P4.4
func TestJoinOfEveryByte(t *testing.T) {
	for x := range 256 {
		for _, w := range []string{string([]byte{byte(x)}), string([]byte{'a', byte(x)}), string([]byte{byte(x), 'a'}), string([]byte{'a', byte(x), 'a'})} {
			for _, l := range [][][]string{{{w}}, {{"a", w}}, {{w, "a"}}, {{"a"}, {w}}, {{"a", "b"}, {"c", w}, {"d"}}} {
				s, e := Join(l)
				if x < 33 || x > 126 {
					if s != "" || e != api.ErrForm {
						t.Fatalf("Join(%q) is %q, %d, not ErrForm", l, s, e)
					}
					continue
				}
				if back, n, f := Lines(s); e != api.OK || !sameLines(back, l) || n != 0 || f != api.OK {
					t.Fatalf("Join(%q) is %q, %d, and Lines of it %q, %d, %d", l, s, e, back, n, f)
				}
			}
		}
	}
}

// P4.3
func TestJoinOfNoLines(t *testing.T) {
	for _, l := range [][][]string{
		{nil},
		{{}},
		{{""}},
		{{"", ""}},
		{{"a", ""}},
		{{"", "a"}},
		{{"a", "", "b"}},
		{{"a"}, nil},
		{{"a"}, {}, {"b"}},
		{nil, {"a"}},
		{{"a"}, {""}},
		{{"a b"}},
		{{"a\n"}},
		{{"a"}, {"b", "\n"}},
		{{"é"}},
		{{"a"}, {"b", "c\xff"}},
	} {
		if s, e := Join(l); s != "" || e != api.ErrForm {
			t.Errorf("Join(%q) is %q, %d, not ErrForm", l, s, e)
		}
	}
}

// P4.4
func TestLinesOfJoin(t *testing.T) {
	words := []string{"a", "b~", "!"}
	var lists [][]string
	for _, s := range strung(3, "0", "1", "2") {
		var line []string
		for i := range len(s) {
			line = append(line, words[s[i]-'0'])
		}
		if line != nil {
			lists = append(lists, line)
		}
	}
	for _, a := range lists {
		for _, b := range lists {
			l := [][]string{a, b, a}
			s, e := Join(l)
			back, n, f := Lines(s)
			if e != api.OK || !sameLines(back, l) || n != 0 || f != api.OK {
				t.Fatalf("Lines(Join(%q)) is %q, %d, %d by %q, %d", l, back, n, f, s, e)
			}
		}
	}
}

// R3
func TestArgumentsAreLeft(t *testing.T) {
	spare := [][]string{{"a", "b", "x"}, {"c", "y"}, {"z"}}
	want := [][]string{{"a", "b", "x"}, {"c", "y"}, {"z"}}
	l := [][]string{spare[0][:2], spare[1][:1], spare[2]}
	if s, e := Join(l[:2]); s != "a b\nc\n" || e != api.OK {
		t.Errorf("Join is %q, %d", s, e)
	}
	if !sameLines(spare, want) || !sameLines(l, [][]string{{"a", "b"}, {"c"}, {"z"}}) {
		t.Errorf("Join has changed its argument to %q", spare)
	}
}

// R3
func TestResultsAreNew(t *testing.T) {
	text := "word other\nword\n"
	l, _, _ := Lines(text)
	for _, words := range l {
		for _, w := range words {
			if shared(w, text) {
				t.Errorf("%q is a piece of the argument of Lines", w)
			}
		}
	}
	for i := range l {
		_ = append(l[i], "more")
		l[i][0] = "changed"
	}
	if !sameLines(l, [][]string{{"changed", "other"}, {"changed"}}) {
		t.Errorf("the lines share memory: %q", l)
	}
	if again, _, _ := Lines(text); !sameLines(again, [][]string{{"word", "other"}, {"word"}}) {
		t.Errorf("a result has changed a later one: %q", again)
	}
	word := strings.Repeat("w", 3)
	if s, _ := Join([][]string{{word}}); shared(s, word) {
		t.Error("the result of Join is a piece of its argument")
	}
}

// R4
func TestResultsStandAlone(t *testing.T) {
	Lines("a\n\n")
	Join([][]string{{"a"}, {}})
	Unhex("00zz")
	Read("01")
	l, n, e := Lines("b\n")
	if !sameLines(l, [][]string{{"b"}}) || n != 0 || e != api.OK {
		t.Errorf("Lines after an error is %q, %d, %d", l, n, e)
	}
	if s, e := Join(l); s != "b\n" || e != api.OK {
		t.Errorf("Join after an error is %q, %d", s, e)
	}
	if b, e := Unhex("01"); b != "\x01" || e != api.OK {
		t.Errorf("Unhex after an error is %q, %d", b, e)
	}
	if n, e := Read("1"); n != 1 || e != api.OK {
		t.Errorf("Read after an error is %d, %d", n, e)
	}
}
