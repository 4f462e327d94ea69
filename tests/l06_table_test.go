package tests

import (
	"math"
	"slices"
	"strconv"
	"strings"
	"testing"

	"loop.example/g00978/impl"
)

// unmapped is the entry of each page that is not mapped.
var unmapped = impl.Entry{}

// behindTable stands behind the entries of an argument; no table holds it.
var behindTable = impl.Entry{Mode: beyond, Frame: beyond}

// entryOf builds an entry by hand, whatever its mode and frame.
func entryOf(mode int, frame int) impl.Entry {
	return impl.Entry{Mode: mode, Frame: frame}
}

// tableOf builds a table by hand, with one entry for each word: a dot stands for a page that is not mapped, r3 for one that is mapped to frame 3 for reading, and w3 also for writing.
func tableOf(words string) impl.Table {
	t := impl.Table{}
	for _, word := range strings.Fields(words) {
		e := impl.Entry{}
		if word != "." {
			e.Mode = strings.Index(".rw", word[:1])
			e.Frame, _ = strconv.Atoi(word[1:])
		}
		t.Entries = append(t.Entries, e)
	}
	return t
}

// pagesOf repeats a word of tableOf.
func pagesOf(n int, word string) string {
	return strings.Repeat(word+" ", n)
}

// withEntry returns t with one entry changed, whatever it is.
func withEntry(t impl.Table, page int, mode int, frame int) impl.Table {
	t.Entries[page] = entryOf(mode, frame)
	return t
}

// badTables are tables that are not valid for 4 frames, each for one reason, and one for several.
func badTables() map[string]impl.Table {
	const words = "w3 . r0 w1"
	return map[string]impl.Table{
		"no entries":                               {},
		"no entries, an empty slice":               {Entries: []impl.Entry{}},
		"one entry too many, not mapped":           tableOf(pagesOf(33, ".")),
		"one entry too many, mapped":               tableOf(pagesOf(33, "w3")),
		"many entries":                             tableOf(pagesOf(100, "r2")),
		"the first mode is -1":                     withEntry(tableOf(words), 0, -1, 3),
		"the last mode is -1":                      withEntry(tableOf(words), 3, -1, 1),
		"the first mode is 3":                      withEntry(tableOf(words), 0, 3, 3),
		"the last mode is 3":                       withEntry(tableOf(words), 3, 3, 1),
		"a mode is the largest integer":            withEntry(tableOf(words), 2, math.MaxInt, 0),
		"a mode is the smallest integer":           withEntry(tableOf(words), 2, math.MinInt, 0),
		"the first frame is -1":                    withEntry(tableOf(words), 0, 2, -1),
		"the last frame is -1":                     withEntry(tableOf(words), 3, 1, -1),
		"the first frame is the number of frames":  withEntry(tableOf(words), 0, 2, 4),
		"the last frame is the number of frames":   withEntry(tableOf(words), 3, 1, 4),
		"a frame is the largest integer":           withEntry(tableOf(words), 2, 1, math.MaxInt),
		"a frame is the smallest integer":          withEntry(tableOf(words), 2, 1, math.MinInt),
		"an entry that is not mapped has frame 1":  withEntry(tableOf(words), 1, 0, 1),
		"an entry that is not mapped has frame 3":  withEntry(tableOf(words), 1, 0, 3),
		"an entry that is not mapped has frame 4":  withEntry(tableOf(words), 1, 0, 4),
		"an entry that is not mapped has frame -1": withEntry(tableOf(words), 1, 0, -1),
		"all of it": {Entries: slices.Repeat([]impl.Entry{{Mode: 0, Frame: 2}, {Mode: 3, Frame: -1}, {Mode: -1, Frame: 9}}, 12)},
	}
}

// sameTable compares tables; a nil slice is an empty one.
func sameTable(a impl.Table, b impl.Table) bool {
	return slices.Equal(a.Entries, b.Entries)
}

// roomyTable returns a table that equals t and has spare capacity behind its entries, filled with what no table holds.
func roomyTable(t impl.Table) impl.Table {
	entries := append(slices.Clone(t.Entries), behindTable, behindTable)
	return impl.Table{Entries: entries[:len(t.Entries)]}
}

// untouchedTable reports whether a table that roomyTable returned equals t still, with the same behind its entries.
func untouchedTable(table impl.Table, t impl.Table) bool {
	behind := table.Entries[len(table.Entries):cap(table.Entries)]
	return sameTable(table, t) && behind[0] == behindTable && behind[1] == behindTable
}

// scribbleTable fills the entries of a result up to their capacity.
func scribbleTable(t impl.Table) {
	for i := range t.Entries[:cap(t.Entries)] {
		t.Entries[:cap(t.Entries)][i] = entryOf(2*beyond, 2*beyond)
	}
}

// checkSet sets a page of a table with spare capacity and checks the result, that it shares no memory with the argument, and that the argument stays as it was.
func checkSet(t *testing.T, name string, table impl.Table, page int, e impl.Entry, want impl.Table, set bool) {
	t.Helper()
	argument := roomyTable(table)
	got, ok := impl.SetPage(argument, page, e)
	if !sameTable(got, want) || ok != set {
		t.Errorf("%s: SetPage(%d, %v) = %v, %v, want %v, %v", name, page, e, got, ok, want, set)
	}
	if !untouchedTable(argument, table) {
		t.Errorf("%s: SetPage(%d, %v) has changed the argument", name, page, e)
	}
	scribbleTable(got)
	if !untouchedTable(argument, table) {
		t.Errorf("%s: the result of SetPage(%d, %v) shares memory with the argument", name, page, e)
	}
}

func checkTableOk(t *testing.T, name string, table impl.Table, frames int, want bool) {
	t.Helper()
	argument := roomyTable(table)
	if got := impl.TableOk(argument, frames); got != want {
		t.Errorf("%s: TableOk(%v, %d) is %v", name, table, frames, got)
	}
	if !untouchedTable(argument, table) {
		t.Errorf("%s: TableOk has changed the argument", name)
	}
}

func checkEntry(t *testing.T, name string, table impl.Table, page int, want impl.Entry) {
	t.Helper()
	argument := roomyTable(table)
	if got := impl.PageEntry(argument, page); got != want {
		t.Errorf("%s: PageEntry(%d) = %v, want %v", name, page, got, want)
	}
	if !untouchedTable(argument, table) {
		t.Errorf("%s: PageEntry has changed the argument", name)
	}
}

func checkPagesOn(t *testing.T, name string, table impl.Table, frame int, want ...int) {
	t.Helper()
	argument := roomyTable(table)
	got := impl.PagesOn(argument, frame)
	if !slices.Equal(got, want) {
		t.Errorf("%s: PagesOn(%d) = %v, want %v", name, frame, got, want)
	}
	for i := range got[:cap(got)] {
		got[:cap(got)][i] = 2 * beyond
	}
	if again := impl.PagesOn(argument, frame); !slices.Equal(again, want) {
		t.Errorf("%s: PagesOn(%d) after its result was written over: %v, want %v", name, frame, again, want)
	}
	if !untouchedTable(argument, table) {
		t.Errorf("%s: PagesOn has changed the argument", name)
	}
}

func checkMapped(t *testing.T, name string, table impl.Table, want int) {
	t.Helper()
	argument := roomyTable(table)
	if got := impl.MappedPages(argument); got != want {
		t.Errorf("%s: MappedPages is %d, want %d", name, got, want)
	}
	if !untouchedTable(argument, table) {
		t.Errorf("%s: MappedPages has changed the argument", name)
	}
}

func TestLimitsOfTables(t *testing.T) {
	if impl.MaxPages != 32 || impl.ModeNone != 0 || impl.ModeRead != 1 || impl.ModeWrite != 2 {
		t.Error("the limit and the modes are", impl.MaxPages, impl.ModeNone, impl.ModeRead, impl.ModeWrite)
	}
}

func TestTableNew(t *testing.T) {
	for n := 1; n <= impl.MaxPages; n++ {
		want := tableOf(pagesOf(n, "."))
		table, ok := impl.TableNew(n)
		if !ok || len(table.Entries) != n || !sameTable(table, want) {
			t.Errorf("TableNew(%d) = %v, %v", n, table, ok)
		}
		for _, frames := range []int{0, 1, 32} {
			checkTableOk(t, "a new table", table, frames, true)
		}
		checkMapped(t, "a new table", table, 0)
		checkPagesOn(t, "a new table", table, 0)
		scribbleTable(table)
		if again, _ := impl.TableNew(n); !sameTable(again, want) {
			t.Errorf("TableNew(%d) after its result was written over: %v", n, again)
		}
	}
}

func TestTableNewRejects(t *testing.T) {
	for _, n := range append(noIndexes(), 0, -3, impl.MaxPages+1, impl.MaxPages+2, 63, 1000) {
		if table, ok := impl.TableNew(n); ok || len(table.Entries) != 0 {
			t.Errorf("TableNew(%d) = %v, %v", n, table, ok)
		}
	}
}

func TestTableOk(t *testing.T) {
	cases := []struct {
		words  string
		frames int
		want   bool
	}{
		{".", 0, true}, {".", 1, true}, {"r0", 1, true}, {"w0", 1, true}, {"r0", 0, false}, {"w0", 0, false},
		{". . .", 0, true}, {". w0 .", 0, false}, {". w0 .", 1, true},
		{"w3 . r0 w1", 4, true}, {"w3 . r0 w1", 3, false}, {"w3 . r0 w1", 5, true}, {"w3 . r0 w1", 32, true},
		{"w3 r3 w3 . w3", 4, true}, {"w3 r3 w3 . w3", 3, false}, {"r1 . . r2", 2, false}, {"r2 . . r1", 2, false}, {"r1 . . r1", 2, true},
		{pagesOf(32, "."), 0, true}, {pagesOf(32, "w31"), 32, true}, {pagesOf(32, "w31"), 31, false}, {pagesOf(31, ".") + "r7", 8, true},
		{pagesOf(31, ".") + "r7", 7, false}, {pagesOf(31, "r7") + ".", 8, true}, {"r32 w40", 41, true},
		{"r32 w40", math.MaxInt, true}, {"w0", math.MaxInt, true}, {".", math.MaxInt, true}, {".", -1, true}, {".", math.MinInt, true},
		{"w0", -1, false}, {"r0 w1", math.MinInt, false},
	}
	for _, c := range cases {
		checkTableOk(t, c.words, tableOf(c.words), c.frames, c.want)
	}
	for name, table := range badTables() {
		checkTableOk(t, name, table, 4, false)
	}
}

// Each entry of a table counts, with its mode and its frame.
func TestTableOkLooksAtEachEntry(t *testing.T) {
	const words = "w1 . r0 r1 ."
	modes := []int{math.MinInt, -2, -1, 0, 1, 2, 3, 4, 1 << 32, 1<<32 + 1, math.MaxInt}
	frameIndexes := []int{math.MinInt, -32, -1, 0, 1, 2, 3, 4, 31, 32, 1 << 32, 1<<32 + 1, math.MaxInt - 1, math.MaxInt}
	for page := range 5 {
		for _, mode := range modes {
			for _, frame := range frameIndexes {
				for _, frames := range []int{2, 3, 32, math.MaxInt} {
					fits := mode == 0 && frame == 0 || (mode == 1 || mode == 2) && frame >= 0 && frame < frames
					checkTableOk(t, words, withEntry(tableOf(words), page, mode, frame), frames, fits)
				}
			}
		}
	}
}

// An entry replaces any other one, on the first page, on the last one and between them, and no other entry changes.
func TestSetPage(t *testing.T) {
	entries := []impl.Entry{
		unmapped, entryOf(1, 0), entryOf(2, 0), entryOf(1, 2), entryOf(2, 2), entryOf(1, 31), entryOf(2, 31),
		entryOf(1, 32), entryOf(2, 1<<32), entryOf(1, math.MaxInt), entryOf(2, math.MaxInt),
	}
	for _, words := range []string{".", "w0", "r5", "w3 . r0 w1", ". . .", "r2 r2 r2", "w2 . w2 . w2", pagesOf(32, "."), pagesOf(32, "w31"), pagesOf(16, "r0 .")} {
		for page := range tableOf(words).Entries {
			for _, e := range entries {
				want := withEntry(tableOf(words), page, e.Mode, e.Frame)
				checkSet(t, words, tableOf(words), page, e, want, true)
				got, _ := impl.SetPage(tableOf(words), page, e)
				checkEntry(t, words, got, page, e)
			}
		}
	}
}

// The table does not have to be valid: an entry is replaced in it all the same.
func TestSetPageTakesInvalidTables(t *testing.T) {
	for name, table := range badTables() {
		for page := range table.Entries {
			for _, e := range []impl.Entry{unmapped, entryOf(1, 0), entryOf(2, 9)} {
				want := impl.Table{Entries: slices.Clone(table.Entries)}
				checkSet(t, name, table, page, e, withEntry(want, page, e.Mode, e.Frame), true)
			}
		}
	}
}

func TestSetPageRejectsPages(t *testing.T) {
	const words = "w3 . r0 w1"
	for _, page := range append(noIndexes(), 4, 5, 31, 32, 33) {
		for _, e := range []impl.Entry{unmapped, entryOf(1, 0), entryOf(2, 3), entryOf(3, 0), entryOf(1, -1), entryOf(0, 1)} {
			checkSet(t, "no such page", tableOf(words), page, e, tableOf(words), false)
		}
	}
	for name, table := range badTables() {
		for _, page := range []int{-1, len(table.Entries), len(table.Entries) + 1, math.MinInt, math.MaxInt} {
			checkSet(t, name, table, page, entryOf(2, 1), table, false)
			checkSet(t, name, table, page, unmapped, table, false)
		}
	}
	for n := 1; n <= 32; n++ {
		table := tableOf(pagesOf(n, "r1"))
		checkSet(t, "behind the last page", table, n, entryOf(2, 1), table, false)
		checkSet(t, "before the first page", table, -1, entryOf(2, 1), table, false)
	}
}

func TestSetPageRejectsEntries(t *testing.T) {
	const words = "w3 . r0 w1"
	bad := []impl.Entry{}
	for _, frame := range []int{math.MinInt, -1, 0, 1, 31, math.MaxInt} {
		for _, mode := range []int{math.MinInt, -2, -1, 3, 4, 1 << 32, 1<<32 + 1, math.MaxInt} {
			bad = append(bad, entryOf(mode, frame))
		}
	}
	for _, frame := range []int{math.MinInt, math.MinInt + 1, -32, -2, -1} {
		bad = append(bad, entryOf(0, frame), entryOf(1, frame), entryOf(2, frame))
	}
	for _, frame := range []int{1, 2, 3, 31, 32, 1 << 32, math.MaxInt} {
		bad = append(bad, entryOf(0, frame))
	}
	for _, e := range bad {
		for page := range 4 {
			checkSet(t, "no such entry", tableOf(words), page, e, tableOf(words), false)
		}
		for name, table := range badTables() {
			checkSet(t, name, table, 0, e, table, false)
			checkSet(t, name, table, len(table.Entries)-1, e, table, false)
		}
	}
}

func TestPageEntry(t *testing.T) {
	for _, words := range []string{".", "w0", "w3 . r0 w1", "w3 r3 w3 . w3", pagesOf(32, "w31"), pagesOf(31, ".") + "r7", "r7 " + pagesOf(31, ".")} {
		table := tableOf(words)
		for page, e := range table.Entries {
			checkEntry(t, words, table, page, e)
		}
		for _, page := range append(noIndexes(), len(table.Entries), len(table.Entries)+1, 32, 33) {
			checkEntry(t, words, table, page, unmapped)
		}
	}
}

// The entry is returned as it is, whether the table is valid or not.
func TestPageEntryOfInvalidTables(t *testing.T) {
	for name, table := range badTables() {
		for page, e := range table.Entries {
			checkEntry(t, name, table, page, e)
		}
		for _, page := range append(noIndexes(), len(table.Entries)) {
			if page < 0 || page >= len(table.Entries) {
				checkEntry(t, name, table, page, unmapped)
			}
		}
	}
}

func TestPagesOn(t *testing.T) {
	checkPagesOn(t, "one page", tableOf("w0"), 0, 0)
	checkPagesOn(t, "one page, another frame", tableOf("w0"), 1)
	checkPagesOn(t, "one page that is not mapped", tableOf("."), 0)
	checkPagesOn(t, "several pages, both modes", tableOf("w2 r1 r2 . w2 w0"), 2, 0, 2, 4)
	checkPagesOn(t, "the last page", tableOf("w2 r1 r2 . w2 w0"), 0, 5)
	checkPagesOn(t, "no page", tableOf("w2 r1 r2 . w2 w0"), 3)
	checkPagesOn(t, "pages on frame 0 beside others that are not mapped", tableOf(". w0 . r0 . ."), 0, 1, 3)
	checkPagesOn(t, "none is mapped", tableOf(". . . ."), 0)
	checkPagesOn(t, "no entries", impl.Table{}, 0)
	checkPagesOn(t, "the first and the last of the most pages", tableOf("r31 "+pagesOf(30, "w0")+"w31"), 31, 0, 31)
	every := []int{}
	for page := range 32 {
		every = append(every, page)
	}
	checkPagesOn(t, "the most pages", tableOf(pagesOf(32, "w31")), 31, every...)
	checkPagesOn(t, "the most pages on frame 0", tableOf(pagesOf(32, "r0")), 0, every...)
	for _, frame := range append(noIndexes(), 4, 32) {
		checkPagesOn(t, "no such frame", tableOf("w3 . r0 w1"), frame)
	}
}

// A page is mapped if its mode is not ModeNone, whether the table is valid or not.
func TestMappedPagesOfInvalidTables(t *testing.T) {
	for name, table := range badTables() {
		pages := map[int][]int{}
		count := 0
		for page, e := range table.Entries {
			if e.Mode != 0 {
				pages[e.Frame] = append(pages[e.Frame], page)
				count++
			}
		}
		checkMapped(t, name, table, count)
		for _, frame := range append(noIndexes(), 0, 1, 2, 3, 4, 9) {
			checkPagesOn(t, name, table, frame, pages[frame]...)
		}
	}
}

func TestMappedPages(t *testing.T) {
	cases := []struct {
		words string
		want  int
	}{
		{"", 0}, {".", 0}, {"r0", 1}, {"w0", 1}, {". .", 0}, {"w0 w0", 2}, {"r0 .", 1}, {". r5", 1}, {"w3 . r0 w1", 3}, {". . w9 . .", 1},
		{pagesOf(32, "."), 0}, {pagesOf(32, "r0"), 32}, {pagesOf(32, "w31"), 32}, {pagesOf(31, "w1") + ".", 31}, {pagesOf(31, ".") + "w1", 1},
	}
	for _, c := range cases {
		checkMapped(t, c.words, tableOf(c.words), c.want)
	}
}

// A page that is mapped to another frame, or to none, leaves its old one, and the other pages on it stay.
func TestPagesMove(t *testing.T) {
	table, _ := impl.TableNew(5)
	for _, page := range []int{4, 0, 2} {
		table, _ = impl.SetPage(table, page, entryOf(2, 7))
	}
	checkPagesOn(t, "three pages", table, 7, 0, 2, 4)
	table, _ = impl.SetPage(table, 2, entryOf(1, 7))
	checkPagesOn(t, "for reading only", table, 7, 0, 2, 4)
	table, _ = impl.SetPage(table, 0, entryOf(2, 3))
	checkPagesOn(t, "after the move", table, 7, 2, 4)
	checkPagesOn(t, "moved", table, 3, 0)
	table, ok := impl.SetPage(table, 4, unmapped)
	if !ok {
		t.Error("a mapped entry is not replaced by one that is not")
	}
	checkPagesOn(t, "not mapped any more", table, 7, 2)
	checkPagesOn(t, "not mapped, so not on frame 0 either", table, 0)
	checkMapped(t, "two pages", table, 2)
	checkEntry(t, "not mapped any more", table, 4, unmapped)
	checkTableOk(t, "frame 7 of 8", table, 8, true)
	checkTableOk(t, "frame 7 of 7", table, 7, false)
}

// A walk through settings ends with the mappings that a plain map of pages has.
func TestTableWalk(t *testing.T) {
	const pages, frames = 7, 4
	table, _ := impl.TableNew(pages)
	mapping := map[int]impl.Entry{}
	seed := 6
	for step := range 3000 {
		seed = seedAfter(seed)
		page, e := seed>>10%9-1, entryOf(seed>>14%5-1, seed>>18%6-1)
		next, ok := impl.SetPage(table, page, e)
		set := page >= 0 && page < pages && (e == unmapped || (e.Mode == 1 || e.Mode == 2) && e.Frame >= 0)
		if ok != set {
			t.Fatalf("step %d: SetPage(%d, %v) is %v", step, page, e, ok)
		}
		if set {
			delete(mapping, page)
			if e.Mode != 0 {
				mapping[page] = e
			}
		}
		table = next
		checkAgainstMap(t, step, table, mapping, pages, frames)
	}
}

// checkAgainstMap compares a table with a map that has an entry for each page that is mapped.
func checkAgainstMap(t *testing.T, step int, table impl.Table, mapping map[int]impl.Entry, pages int, frames int) {
	t.Helper()
	fits := true
	for page := -1; page <= pages; page++ {
		e := mapping[page]
		fits = fits && (e == unmapped || e.Frame < frames)
		if got := impl.PageEntry(table, page); got != e {
			t.Fatalf("step %d: the entry of page %d is %v, want %v", step, page, got, e)
		}
	}
	for frame := -1; frame <= frames+1; frame++ {
		on := []int{}
		for page := range pages {
			if e, ok := mapping[page]; ok && e.Frame == frame {
				on = append(on, page)
			}
		}
		if got := impl.PagesOn(table, frame); !slices.Equal(got, on) {
			t.Fatalf("step %d: the pages on frame %d are %v, want %v", step, frame, got, on)
		}
	}
	if got := impl.MappedPages(table); got != len(mapping) || impl.TableOk(table, frames) != fits || len(table.Entries) != pages {
		t.Fatalf("step %d: %d pages are mapped, want %d, and the table is %v", step, got, len(mapping), table)
	}
}
