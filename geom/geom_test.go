package geom

import (
	"math"
	"testing"

	"instar/api"
)

// place is what Where tells of a sector.
type place struct{ use, slot, index int }

// layout lists the sectors in the order in which the chapter assigns them.
func layout(g api.Geometry) []place {
	l := []place{{0, 0, 0}, {0, 0, 1}}
	for slot := range 2 {
		l = append(l, place{1, slot, 0})
		for i := range g.Slot - 1 {
			l = append(l, place{2, slot, i})
		}
	}
	for p := range g.Data {
		l = append(l, place{3, 0, p})
	}
	return l
}

// find returns the sector of a layout with that use, slot and index, or -1.
func find(l []place, p place) int {
	for sector, q := range l {
		if q == p {
			return sector
		}
	}
	return -1
}

// small is the geometry of the chapter's example.
func small() api.Geometry {
	return api.Geometry{Sector: 64, Slot: 3, Data: 8, Quota: 4, Tries: 3, Life: 1000}
}

// geometries returns valid geometries, the smallest and the greatest of each kind among them.
func geometries() []api.Geometry {
	l := []api.Geometry{small()}
	for _, sector := range []int{64, 65, 100, 136, 1024} {
		for _, slot := range []int{2, 3, 4, 31, 32} {
			for _, quota := range []int{2, 3, 56, min(125, sector-8)} {
				for _, data := range []int{quota + 3, (quota + 3 + 128) / 2, 128} {
					l = append(l, api.Geometry{Sector: sector, Slot: slot, Data: data, Quota: quota, Tries: 1, Life: 1})
				}
			}
		}
	}
	return l
}

// bounds is from where to where a geometry is valid in the member that set sets.
type bounds struct {
	name      string
	set       func(g *api.Geometry, n int)
	low, high int
}

// members returns the bounds of every member; set may choose other members too, where bounds depend on them.
func members() []bounds {
	return []bounds{
		{"Sector", func(g *api.Geometry, n int) { g.Sector = n }, 64, 1024},
		{"Sector for a quota of 100", func(g *api.Geometry, n int) { g.Sector, g.Quota, g.Data = n, 100, 128 }, 108, 1024},
		{"Slot", func(g *api.Geometry, n int) { g.Slot = n }, 2, 32},
		{"Quota of a sector of 64", func(g *api.Geometry, n int) { g.Sector, g.Quota, g.Data = 64, n, 128 }, 2, 56},
		{"Quota of a sector of 132", func(g *api.Geometry, n int) { g.Sector, g.Quota, g.Data = 132, n, 128 }, 2, 124},
		{"Quota of a sector of 1024", func(g *api.Geometry, n int) { g.Sector, g.Quota, g.Data = 1024, n, 128 }, 2, 125},
		{"Quota of 8 pages", func(g *api.Geometry, n int) { g.Quota = n }, 2, 5},
		{"Data for a quota of 2", func(g *api.Geometry, n int) { g.Quota, g.Data = 2, n }, 5, 128},
		{"Data for a quota of 4", func(g *api.Geometry, n int) { g.Data = n }, 7, 128},
		{"Data for a quota of 125", func(g *api.Geometry, n int) { g.Sector, g.Quota, g.Data = 1024, 125, n }, 128, 128},
		{"Tries", func(g *api.Geometry, n int) { g.Tries = n }, 1, 9},
		{"Life", func(g *api.Geometry, n int) { g.Life = n }, 1, 1<<30 - 1},
	}
}

// odd returns numbers that an overflow, or a conversion to fewer bits, could bring into bounds.
func odd() []int {
	return []int{math.MinInt, math.MinInt + 1, math.MinInt + 8, math.MinInt32, -1 << 32, -(1 << 32) + 3, -129, -3, -1,
		1 << 30, math.MaxInt32, 1 << 32, 1<<32 + 2, 1<<32 + 3, 1<<32 + 100, 1 << 62, 1<<62 + 64, math.MaxInt - 8, math.MaxInt - 2, math.MaxInt}
}

func checkNumber(t *testing.T, what string, g api.Geometry, got, want int) {
	t.Helper()
	if got != want {
		t.Errorf("%s of %+v is %d, not %d", what, g, got, want)
	}
}

func checkWhere(t *testing.T, g api.Geometry, sector int, want place) {
	t.Helper()
	use, slot, index := Where(g, sector)
	if got := (place{use, slot, index}); got != want {
		t.Errorf("Where(%+v, %d) is %v, not %v", g, sector, got, want)
	}
}

// P8.1
func TestCheckBounds(t *testing.T) {
	for _, b := range members() {
		for _, n := range append(odd(), 0, 1, b.low-1, b.low, b.low+1, (b.low+b.high)/2, b.high-1, b.high, b.high+1) {
			g, want := small(), api.OK
			b.set(&g, n)
			if n < b.low || n > b.high {
				want = api.ErrArg
			}
			if e := Check(g); e != want {
				t.Errorf("%s %d: Check is %d, not %d", b.name, n, e, want)
			}
		}
	}
}

// P8.1
func TestCheckEverySmallNumber(t *testing.T) {
	for _, b := range members() {
		for n := -10; n <= 1100; n++ {
			g := small()
			b.set(&g, n)
			valid := g.Sector >= 64 && g.Sector <= 1024 && g.Slot >= 2 && g.Slot <= 32 && g.Quota >= 2 && g.Quota <= g.Sector-8 &&
				g.Data >= g.Quota+3 && g.Data <= 128 && g.Tries >= 1 && g.Tries <= 9 && g.Life >= 1 && g.Life <= 1<<30-1
			if (Check(g) == api.OK) != valid {
				t.Errorf("%s %d: Check is %d", b.name, n, Check(g))
			}
		}
	}
}

// P8.1
func TestSectors(t *testing.T) {
	for _, g := range geometries() {
		if e := Check(g); e != api.OK {
			t.Errorf("Check(%+v) is %d", g, e)
		}
		checkNumber(t, "Sectors", g, Sectors(g), len(layout(g)))
	}
	checkNumber(t, "Sectors", small(), Sectors(small()), 16)
}

// invalid returns invalid geometries, most of them with one invalid member.
func invalid() []api.Geometry {
	l := []api.Geometry{
		{},
		{Sector: -64, Slot: -3, Data: -8, Quota: -4, Tries: -3, Life: -1000},
		{Sector: math.MaxInt, Slot: math.MaxInt, Data: math.MaxInt, Quota: math.MaxInt, Tries: math.MaxInt, Life: math.MaxInt},
		{Sector: math.MinInt, Slot: math.MinInt, Data: math.MinInt, Quota: math.MinInt, Tries: math.MinInt, Life: math.MinInt},
		{Sector: 1024, Slot: 32, Data: math.MinInt + 2, Quota: math.MaxInt, Tries: 9, Life: 1},
	}
	for _, b := range members() {
		for _, n := range append(odd(), b.low-1, b.high+1) {
			if n < b.low || n > b.high {
				g := small()
				b.set(&g, n)
				l = append(l, g)
			}
		}
	}
	return l
}

// P8.1, P8.4: no sector of an invalid geometry exists.
func TestInvalidGeometries(t *testing.T) {
	for _, g := range invalid() {
		if e := Check(g); e != api.ErrArg {
			t.Errorf("Check(%+v) is %d", g, e)
		}
		checkNumber(t, "Sectors", g, Sectors(g), 0)
		checkNumber(t, "Long", g, Long(g), 0)
		checkNumber(t, "Cap", g, Cap(g), 0)
		for _, n := range append(odd(), 0, 1, 2, 3, 8, 300) {
			checkNumber(t, "Ledger", g, Ledger(g, n), -1)
			checkNumber(t, "Page", g, Page(g, n), -1)
			checkNumber(t, "Chunks", g, Chunks(g, n), 0)
			checkWhere(t, g, n, place{-1, 0, 0})
			for _, i := range append(odd(), 0, 1, 2) {
				checkNumber(t, "Chunk", g, Chunk(g, n, i), -1)
				checkNumber(t, "Part", g, Part(g, n, i), 0)
			}
		}
	}
}

// P8.2
func TestLedgerChunkPage(t *testing.T) {
	for _, g := range geometries() {
		l := layout(g)
		for slot := -3; slot <= 5; slot++ {
			checkNumber(t, "Ledger", g, Ledger(g, slot), find(l, place{1, slot, 0}))
			for i := -3; i <= 70; i++ {
				checkNumber(t, "Chunk", g, Chunk(g, slot, i), find(l, place{2, slot, i}))
			}
		}
		for p := -5; p <= 135; p++ {
			checkNumber(t, "Page", g, Page(g, p), find(l, place{3, 0, p}))
		}
		for _, n := range odd() {
			checkNumber(t, "Ledger", g, Ledger(g, n), -1)
			checkNumber(t, "Chunk of an odd slot", g, Chunk(g, n, 0), -1)
			checkNumber(t, "Chunk of an odd index", g, Chunk(g, 0, n), -1)
			checkNumber(t, "Chunk of an odd index", g, Chunk(g, 1, n), -1)
			checkNumber(t, "Page", g, Page(g, n), -1)
		}
	}
}

// P8.2: the example of the chapter.
func TestLedgerChunkPageOfTheExample(t *testing.T) {
	g := small()
	for slot, sector := range []int{2, 5, -1} {
		checkNumber(t, "Ledger", g, Ledger(g, slot), sector)
	}
	for i, sector := range []int{6, 7, -1} {
		checkNumber(t, "Chunk", g, Chunk(g, 1, i), sector)
	}
	for p, sector := range []int{8, 9, 10, 11, 12, 13, 14, 15, -1} {
		checkNumber(t, "Page", g, Page(g, p), sector)
	}
}

// P8.3
func TestLongAndCap(t *testing.T) {
	for _, g := range geometries() {
		checkNumber(t, "Long", g, Long(g), 4*g.Sector)
		checkNumber(t, "Cap", g, Cap(g), 4*g.Sector*(g.Slot-1))
	}
	checkNumber(t, "Long", small(), Long(small()), 256)
	checkNumber(t, "Cap", small(), Cap(small()), 512)
}

// filled returns how many bytes each chunk has after that many bytes have been put into the chunks, one after the other, or nothing if they do not fit or are none.
func filled(g api.Geometry, total int) []int {
	if total > (g.Slot-1)*g.Sector*4 {
		return nil
	}
	var l []int
	for total > 0 {
		n := min(total, g.Sector*4)
		l = append(l, n)
		total -= n
	}
	return l
}

// checkParts checks Chunks, and Part for every chunk and for some that do not exist; P8.5: the results of Part add up to total.
func checkParts(t *testing.T, g api.Geometry, total int) {
	t.Helper()
	l := filled(g, total)
	checkNumber(t, "Chunks", g, Chunks(g, total), len(l))
	sum := 0
	for i := -2; i <= 40; i++ {
		want := 0
		if i >= 0 && i < len(l) {
			want = l[i]
		}
		got := Part(g, total, i)
		if got != want {
			t.Errorf("Part(%+v, %d, %d) is %d, not %d", g, total, i, got, want)
		}
		sum += got
	}
	if len(l) > 0 && sum != total {
		t.Errorf("Part of %+v adds up to %d, not %d", g, sum, total)
	}
}

// P8.3, P8.5
func TestEveryTotal(t *testing.T) {
	for _, g := range []api.Geometry{
		small(),
		{Sector: 64, Slot: 2, Data: 5, Quota: 2, Tries: 1, Life: 1},
		{Sector: 65, Slot: 9, Data: 5, Quota: 2, Tries: 1, Life: 1},
	} {
		for total := -300; total <= Cap(g)+300; total++ {
			checkParts(t, g, total)
		}
	}
}

// P8.3, P8.5
func TestTotalsOfEveryGeometry(t *testing.T) {
	for _, g := range geometries() {
		long := 4 * g.Sector
		for n := range g.Slot + 1 {
			for d := -2; d <= 2; d++ {
				checkParts(t, g, n*long+d)
			}
			checkParts(t, g, n*long+long/2)
		}
		for _, total := range odd() {
			checkParts(t, g, total)
		}
		for _, i := range odd() {
			checkNumber(t, "Part of an odd index", g, Part(g, long*(g.Slot-1), i), 0)
			checkNumber(t, "Part of an odd index", g, Part(g, 1, i), 0)
		}
	}
}

// P8.3: the example of the chapter.
func TestPartsOfTheExample(t *testing.T) {
	g := small()
	checkNumber(t, "Chunks of 600", g, Chunks(g, 600), 0)
	checkNumber(t, "Chunks of 500", g, Chunks(g, 500), 2)
	for i, n := range []int{256, 244, 0} {
		checkNumber(t, "Part of 500", g, Part(g, 500, i), n)
		checkNumber(t, "Part of 600", g, Part(g, 600, i), 0)
	}
}

// P8.4
func TestWhere(t *testing.T) {
	for _, g := range geometries() {
		l := layout(g)
		for sector, p := range l {
			checkWhere(t, g, sector, p)
		}
		for _, sector := range append(odd(), -2, len(l), len(l)+1, len(l)+100, 512) {
			checkWhere(t, g, sector, place{-1, 0, 0})
		}
	}
}

// named returns the sector that Ledger, Chunk or Page gives to what Where tells; no function gives one to a journal sector.
func named(g api.Geometry, p place) int {
	switch p.use {
	case 0:
		return p.index
	case 1:
		return Ledger(g, p.slot)
	case 2:
		return Chunk(g, p.slot, p.index)
	}
	return Page(g, p.index)
}

// P8.5: every sector has one use, which no other sector has.
func TestWhereAndBack(t *testing.T) {
	for _, g := range geometries() {
		seen := map[place]bool{}
		for sector := range Sectors(g) {
			use, slot, index := Where(g, sector)
			p := place{use, slot, index}
			if use < 0 || use > 3 || seen[p] {
				t.Errorf("Where(%+v, %d) is %v", g, sector, p)
			}
			seen[p] = true
			checkNumber(t, "the sector of what Where tells", g, named(g, p), sector)
		}
		if n := 2 + 2 + 2*(g.Slot-1) + g.Data; len(seen) != n {
			t.Errorf("%d uses of %+v, not %d", len(seen), g, n)
		}
	}
}

// R4: the tries and the life of a geometry have no part in its layout, and answers repeat.
func TestOnlyTheLayoutCounts(t *testing.T) {
	g := small()
	h := g
	h.Tries, h.Life = 9, 1<<30-1
	for range 2 {
		checkNumber(t, "Sectors", h, Sectors(h), Sectors(g))
		checkNumber(t, "Page", h, Page(h, 3), Page(g, 3))
		checkNumber(t, "Chunk", h, Chunk(h, 1, 1), Chunk(g, 1, 1))
		checkNumber(t, "Part", h, Part(h, 500, 1), Part(g, 500, 1))
		checkWhere(t, h, 7, place{2, 1, 1})
	}
}
