package tests

import (
	"fmt"
	"math"
	"slices"
	"strings"
	"testing"

	"loop.example/g00978/impl"
)

// spanOf builds a span by hand: slots has an x for each slot in use and a dot for each free one, and its length tells the class.
func spanOf(page int, slots string) impl.Span {
	s := impl.Span{Page: page}
	for len(slots)*cellsOf(s.Class) < 16 {
		s.Class++
	}
	for i := len(slots) - 1; i >= 0; i-- {
		s.Bits += s.Bits
		if slots[i] == 'x' {
			s.Bits++
		}
	}
	return s
}

// slotCount is the number of slots of a class that exists.
func slotCount(class int) int {
	return 16 / cellsOf(class)
}

// slotTexts are all texts of slots of a class, the empty one first and the full one last.
func slotTexts(class int) []string {
	list := []string{""}
	for range slotCount(class) {
		longer := make([]string, 0, 2*len(list))
		for _, slots := range list {
			longer = append(longer, slots+".", slots+"x")
		}
		list = longer
	}
	return list
}

// eachText calls visit for all texts of slots of all classes.
func eachText(visit func(class int, slots string)) {
	for class := range impl.Classes {
		for _, slots := range slotTexts(class) {
			visit(class, slots)
		}
	}
}

// withLetter returns slots with one letter replaced.
func withLetter(slots string, i int, letter string) string {
	return slots[:i] + letter + slots[i+1:]
}

// freeIn are the free slots of a text, in ascending order.
func freeIn(slots string) []int {
	free := []int{}
	for i := range len(slots) {
		if slots[i] == '.' {
			free = append(free, i)
		}
	}
	return free
}

// cellsIn are the cells of the slots in use of a text, found by writing a letter for each cell.
func cellsIn(slots string) []int {
	cells := []int{}
	page := strings.ReplaceAll(slots, "x", strings.Repeat("x", 16/len(slots)))
	page = strings.ReplaceAll(page, ".", strings.Repeat(".", 16/len(slots)))
	for at := range len(page) {
		if page[at] == 'x' {
			cells = append(cells, at)
		}
	}
	return cells
}

// somePages are both ends of the range and pages between.
func somePages() []int {
	return []int{0, 1, 2, 7, 15, 16, 30, 31}
}

// someSlots are texts of each class: an empty page, a full one, and others.
func someSlots() []string {
	return []string{
		"..", "xx", "x.", ".x",
		"....", "xxxx", "x.x.", ".xx.", "xxx.", ".xxx",
		"........", "xxxxxxxx", "x.x.x.x.", "xxx..xxx", ".xxxxxxx", "xxxxxxx.",
		noted(16, '.'), noted(16, 'x'), strings.Repeat("x.", 8), strings.Repeat(".x", 8), "." + noted(15, 'x'), noted(15, 'x') + ".",
	}
}

// strangeSlots are numbers that are no slots of a class, among them those that a larger class of slots has and those whose address would wrap around into the page.
func strangeSlots(class int) []int {
	list := []int{-1, -2, -15, -16, -17, math.MinInt, math.MinInt + 1, 16, 17, 31, 32, 62, 63, 64, 65, 512, 1 << 32, 1 << 60, 1<<60 + 1, 1 << 61, 1<<61 + 1, 1 << 62, 1<<62 + 1, math.MaxInt - 1, math.MaxInt}
	for slot := slotCount(class); slot < 16; slot++ {
		list = append(list, slot)
	}
	return list
}

// badBits are numbers that are no bitmaps of the slots of a class.
func badBits(class int) []int {
	list := append(negatives(), wide()...)
	for _, bit := range powers()[slotCount(class):] {
		list = append(list, bit, bit+1, bit-1+bit)
	}
	return list
}

// badSpans are spans that are not valid, nearly all of them for one reason only; in most of them slots would be free, in others none would be.
func badSpans() []impl.Span {
	list := []impl.Span{}
	for _, page := range noPages(32) {
		for _, slots := range someSlots() {
			list = append(list, spanOf(page, slots))
		}
	}
	for _, page := range []int{0, 2, 31} {
		for _, class := range noClasses() {
			for _, bits := range []int{0, 1, 2, 3, 15, 255, 65535, -1} {
				list = append(list, impl.Span{Page: page, Class: class, Bits: bits})
			}
		}
		for class := range impl.Classes {
			for _, bits := range badBits(class) {
				list = append(list, impl.Span{Page: page, Class: class, Bits: bits})
			}
		}
	}
	return append(list, impl.Span{Page: -1, Class: -1, Bits: -1}, impl.Span{Page: 32, Class: 4, Bits: 65536}, impl.Span{Page: -1, Class: 3, Bits: 4}, impl.Span{Page: 32, Class: -1}, impl.Span{Page: 5, Class: 4, Bits: -1})
}

// checkSpanTake checks all results of a call; a span that is returned unchanged has to equal s in every field.
func checkSpanTake(t *testing.T, s impl.Span, seed int, want impl.Span, slot int, next int, taken bool) {
	t.Helper()
	got, gotSlot, gotNext, ok := impl.SpanTake(s, seed)
	if got != want || gotSlot != slot || gotNext != next || ok != taken {
		t.Errorf("SpanTake(%v, %d) = %v, %d, %d, %v, want %v, %d, %d, %v", s, seed, got, gotSlot, gotNext, ok, want, slot, next, taken)
	}
}

func checkNoTake(t *testing.T, s impl.Span, seed int) {
	t.Helper()
	checkSpanTake(t, s, seed, s, -1, seed, false)
}

func checkSpanGive(t *testing.T, s impl.Span, slot int, want impl.Span, given bool) {
	t.Helper()
	if got, ok := impl.SpanGive(s, slot); got != want || ok != given {
		t.Errorf("SpanGive(%v, %d) = %v, %v, want %v, %v", s, slot, got, ok, want, given)
	}
}

func checkSpanAddr(t *testing.T, s impl.Span, slot int, want int) {
	t.Helper()
	if got := impl.SpanAddr(s, slot); got != want {
		t.Errorf("SpanAddr(%v, %d) = %d, want %d", s, slot, got, want)
	}
}

func checkSlotAt(t *testing.T, s impl.Span, addr int, slot int, offset int) {
	t.Helper()
	if gotSlot, gotOffset := impl.SlotAt(s, addr); gotSlot != slot || gotOffset != offset {
		t.Errorf("SlotAt(%v, %d) = %d, %d, want %d, %d", s, addr, gotSlot, gotOffset, slot, offset)
	}
}

// checkSpanCells also checks that a result that is written over, spare capacity included, leaves no trace.
func checkSpanCells(t *testing.T, s impl.Span, want ...int) {
	t.Helper()
	for range 2 {
		got := impl.SpanCells(s)
		if !slices.Equal(got, want) {
			t.Errorf("SpanCells(%v) = %v, want %v", s, got, want)
		}
		scribbleList(got)
	}
}

func checkFull(t *testing.T, s impl.Span, want bool) {
	t.Helper()
	if got := impl.SpanFull(s); got != want {
		t.Errorf("SpanFull(%v) is %v", s, got)
	}
}

func checkSpanOk(t *testing.T, s impl.Span, want bool) {
	t.Helper()
	if got := impl.SpanOk(s); got != want {
		t.Errorf("SpanOk(%v) is %v", s, got)
	}
}

func TestSpanOk(t *testing.T) {
	for page := range 32 {
		for _, slots := range someSlots() {
			checkSpanOk(t, spanOf(page, slots), true)
		}
	}
	eachText(func(class int, slots string) {
		checkSpanOk(t, spanOf(3, slots), true)
	})
}

// Of each class, the bit of the highest slot can be in use, alone and with all others, and the one above it cannot.
func TestSpanOkAtTheLimits(t *testing.T) {
	if impl.MaxPages != 32 || impl.Classes != 4 {
		t.Fatal("the limits are", impl.MaxPages, impl.Classes)
	}
	cases := []struct{ class, highest, full, above int }{{0, 32768, 65535, 65536}, {1, 128, 255, 256}, {2, 8, 15, 16}, {3, 2, 3, 4}}
	for _, c := range cases {
		for _, page := range []int{-1, 0, 31, 32} {
			there := page == 0 || page == 31
			for _, bits := range []int{0, 1, c.highest, c.full} {
				checkSpanOk(t, impl.Span{Page: page, Class: c.class, Bits: bits}, there)
			}
			for _, bits := range []int{-1, -c.highest, -c.above, c.above, c.above + 1, c.above + c.highest, c.above + c.full} {
				checkSpanOk(t, impl.Span{Page: page, Class: c.class, Bits: bits}, false)
			}
		}
	}
	for _, class := range []int{-1, 4} {
		for _, bits := range []int{0, 1, -1, 2} {
			checkSpanOk(t, impl.Span{Class: class, Bits: bits}, false)
		}
	}
}

// A span that is not valid has no slots, no addresses and no cells, and is not full; it comes back as it is.
func TestInvalidSpans(t *testing.T) {
	for _, s := range badSpans() {
		checkSpanOk(t, s, false)
		checkSpanCells(t, s)
		checkFull(t, s, false)
		for _, seed := range append([]int{0, 1, 12345, impl.MaxSeed}, badSeeds()...) {
			checkNoTake(t, s, seed)
		}
		for slot := -2; slot <= 17; slot++ {
			checkSpanGive(t, s, slot, s, false)
			checkSpanAddr(t, s, slot, -1)
		}
		first := s.Page * 16
		for _, addr := range append(noIndexes(), 0, 1, 15, 32, 33, 47, 496, 511, 512, 513, first-1, first, first+1, first+15, first+16) {
			checkSlotAt(t, s, addr, -1, -1)
		}
	}
}

// take is a take that a separate model of the chapter made.
type take struct {
	slots string
	seed  int
	after string
	slot  int
	next  int
}

func modelTakes() []take {
	return []take{
		{"..", 0, "x.", 0, 12345},
		{"..", 1, ".x", 1, 29785766},
		{"..", 1073741823, "x.", 0, 1043980748},
		{"x.", 0, "xx", 1, 12345},
		{".x", 1, "xx", 0, 29785766},
		{"....", 0, "x...", 0, 12345},
		{"....", 12345, ".x..", 1, 333190782},
		{"x.x.", 0, "xxx.", 1, 12345},
		{"x.x.", 1, "x.xx", 3, 29785766},
		{".xx.", 12345, ".xxx", 3, 333190782},
		{"xxx.", 1073741823, "xxxx", 3, 1043980748},
		{"........", 0, "....x...", 4, 12345},
		{"........", 1, ".......x", 7, 29785766},
		{"........", 1073741823, "x.......", 0, 1043980748},
		{"x.x.x.x.", 12345, "x.xxx.x.", 3, 333190782},
		{"xxx..xxx", 0, "xxxx.xxx", 3, 12345},
		{"xxx..xxx", 1, "xxx.xxxx", 4, 29785766},
		{".xxxxxxx", 12345, "xxxxxxxx", 0, 333190782},
		{"................", 0, "............x...", 12, 12345},
		{"................", 1, "...............x", 15, 29785766},
		{"................", 1073741823, "........x.......", 8, 1043980748},
		{"xxxxxxxx........", 12345, "xxxxxxxx.....x..", 13, 333190782},
		{"xxxxxxxx........", 1073741823, "xxxxxxxxx.......", 8, 1043980748},
		{"x.x.x.x.x.x.x.x.", 0, "x.x.x.x.xxx.x.x.", 9, 12345},
		{"x.x.x.x.x.x.x.x.", 12345, "x.x.x.x.x.xxx.x.", 11, 333190782},
		{".xxxxxxxxxxxxxxx", 0, "xxxxxxxxxxxxxxxx", 0, 12345},
		{"xxxxxxxxxxxxxxx.", 1073741823, "xxxxxxxxxxxxxxxx", 15, 1043980748},
	}
}

func TestSpanTake(t *testing.T) {
	for _, c := range modelTakes() {
		for _, page := range somePages() {
			checkSpanTake(t, spanOf(page, c.slots), c.seed, spanOf(page, c.after), c.slot, c.next, true)
		}
	}
}

// Of each span, the slot is the element of the free slots at the number that Choose returns, and giving it back restores the span.
func TestTakeAndGiveBackInEachSpan(t *testing.T) {
	seed := 0
	eachText(func(class int, slots string) {
		free := freeIn(slots)
		for _, page := range []int{0, 31} {
			s := spanOf(page, slots)
			if len(free) == 0 {
				checkNoTake(t, s, seed)
				continue
			}
			next := seedAfter(seed)
			slot := free[next/1024%len(free)]
			after := spanOf(page, withLetter(slots, slot, "x"))
			checkSpanTake(t, s, seed, after, slot, next, true)
			checkSpanGive(t, after, slot, s, true)
			if chosen, same := impl.Choose(seed, len(free)); free[chosen] != slot || same != next {
				t.Errorf("Choose(%d, %d) = %d, %d", seed, len(free), chosen, same)
			}
			seed = next
		}
	})
}

// At both ends of the range of seeds a slot is taken, and just outside it none is.
func TestSpanTakeAtTheLimitsOfSeeds(t *testing.T) {
	for _, slots := range someSlots() {
		s, free := spanOf(5, slots), freeIn(slots)
		if len(free) == 0 {
			continue
		}
		for _, seed := range someSeeds() {
			next := seedAfter(seed)
			slot := free[next/1024%len(free)]
			checkSpanTake(t, s, seed, spanOf(5, withLetter(slots, slot, "x")), slot, next, true)
		}
		for _, seed := range badSeeds() {
			checkNoTake(t, s, seed)
		}
	}
}

// Each free slot is taken for some seed.
func TestSpanTakeReachesEachFreeSlot(t *testing.T) {
	for _, slots := range someSlots() {
		reached := map[int]bool{}
		seed := 0
		for range 2000 {
			_, slot, next, ok := impl.SpanTake(spanOf(4, slots), seed)
			if ok {
				reached[slot] = true
			}
			seed = seedAfter(seed)
			if ok && next != seed {
				t.Fatalf("SpanTake(%q): the next seed is %d, want %d", slots, next, seed)
			}
		}
		for slot := -1; slot <= 16; slot++ {
			if reached[slot] != slices.Contains(freeIn(slots), slot) {
				t.Errorf("SpanTake(%q): slot %d is reached: %v", slots, slot, reached[slot])
			}
		}
	}
}

// A full span on each page: all its cells are in use, no slot can be taken with any seed, and each can be given, after which it is the one that is taken.
func TestFullSpans(t *testing.T) {
	for class := range impl.Classes {
		count := slotCount(class)
		for page := range 32 {
			s := spanOf(page, noted(count, 'x'))
			checkSpanOk(t, s, true)
			checkFull(t, s, true)
			checkSpanCells(t, s, 0, 1, 2, 3, 4, 5, 6, 7, 8, 9, 10, 11, 12, 13, 14, 15)
			for _, seed := range append([]int{0, 1, 5, 12345, impl.MaxSeed - 1, impl.MaxSeed}, badSeeds()...) {
				checkNoTake(t, s, seed)
			}
			for slot := range count {
				one := spanOf(page, withLetter(noted(count, 'x'), slot, "."))
				checkSpanGive(t, s, slot, one, true)
				checkFull(t, one, false)
				checkSpanTake(t, one, impl.MaxSeed, s, slot, 1043980748, true)
				checkSpanAddr(t, s, slot, page*16+slot*cellsOf(class))
			}
			for _, slot := range strangeSlots(class) {
				checkSpanGive(t, s, slot, s, false)
				checkSpanAddr(t, s, slot, -1)
			}
		}
	}
}

// An empty span on each page has no cell in use and no slot to give, but all slots to take.
func TestEmptySpans(t *testing.T) {
	for class := range impl.Classes {
		count := slotCount(class)
		for page := range 32 {
			s := spanOf(page, noted(count, '.'))
			checkSpanOk(t, s, true)
			checkFull(t, s, false)
			checkSpanCells(t, s)
			for slot := range count {
				checkSpanGive(t, s, slot, s, false)
				checkSpanAddr(t, s, slot, page*16+slot*cellsOf(class))
			}
			next := seedAfter(page)
			slot := next / 1024 % count
			checkSpanTake(t, s, page, spanOf(page, withLetter(noted(count, '.'), slot, "x")), slot, next, true)
		}
	}
}

func TestSpanGive(t *testing.T) {
	cases := []struct {
		slots string
		slot  int
		after string
	}{
		{"x.", 0, ".."}, {".x", 1, ".."}, {"xx", 0, ".x"}, {"xx", 1, "x."},
		{"x.x.", 0, "..x."}, {"x.x.", 2, "x..."}, {"xxxx", 3, "xxx."}, {"...x", 3, "...."},
		{"xxx..xxx", 7, "xxx..xx."}, {"x.......", 0, "........"}, {"xxxxxxxx", 4, "xxxx.xxx"},
		{"xxxxxxxxxxxxxxxx", 15, "xxxxxxxxxxxxxxx."}, {"...............x", 15, "................"}, {"x...............", 0, "................"},
	}
	for _, c := range cases {
		for _, page := range somePages() {
			checkSpanGive(t, spanOf(page, c.slots), c.slot, spanOf(page, c.after), true)
			checkSpanGive(t, spanOf(page, c.after), c.slot, spanOf(page, c.after), false)
		}
	}
}

// Of each span, the slots in use can be given, one by one, and no others: neither a free one nor one that the class does not have.
func TestSpanGiveInEachSpan(t *testing.T) {
	strange := [][]int{}
	for class := range impl.Classes {
		strange = append(strange, strangeSlots(class))
	}
	eachText(func(class int, slots string) {
		s := spanOf(6, slots)
		for slot := range len(slots) {
			if slots[slot] == 'x' {
				checkSpanGive(t, s, slot, spanOf(6, withLetter(slots, slot, ".")), true)
			} else {
				checkSpanGive(t, s, slot, s, false)
			}
		}
		for _, slot := range strange[class] {
			checkSpanGive(t, s, slot, s, false)
		}
	})
}

func TestSpanAddr(t *testing.T) {
	cases := []struct {
		page  int
		slots string
		slot  int
		want  int
	}{
		{0, "x.", -1, -1}, {0, "x.", 0, 0}, {0, "x.", 1, 8}, {0, "x.", 2, -1},
		{31, "xx", -1, -1}, {31, "xx", 0, 496}, {31, "xx", 1, 504}, {31, "xx", 2, -1}, {31, "xx", 3, -1},
		{2, "x.x.", -1, -1}, {2, "x.x.", 0, 32}, {2, "x.x.", 1, 36}, {2, "x.x.", 3, 44}, {2, "x.x.", 4, -1}, {2, "x.x.", 5, -1},
		{1, "........", -1, -1}, {1, "........", 0, 16}, {1, "........", 5, 26}, {1, "........", 7, 30}, {1, "........", 8, -1},
		{0, noted(16, '.'), -1, -1}, {0, noted(16, '.'), 0, 0}, {0, noted(16, '.'), 15, 15}, {0, noted(16, '.'), 16, -1},
		{31, noted(16, 'x'), 0, 496}, {31, noted(16, 'x'), 15, 511}, {31, noted(16, 'x'), 16, -1}, {31, noted(16, 'x'), 17, -1},
	}
	for _, c := range cases {
		checkSpanAddr(t, spanOf(c.page, c.slots), c.slot, c.want)
	}
}

// A page is laid out by counting: slot follows slot and cell follows cell, whether they are in use or not. The last slot ends with the page, so that no class leaves cells behind it.
func TestLayoutOfEachPage(t *testing.T) {
	addr := 0
	for page := range 32 {
		start := addr
		for _, slots := range someSlots() {
			s := spanOf(page, slots)
			addr = start
			for slot := range len(slots) {
				checkSpanAddr(t, s, slot, addr)
				for offset := range cellsOf(s.Class) {
					checkSlotAt(t, s, addr, slot, offset)
					addr++
				}
			}
			if addr != start+16 {
				t.Fatalf("the slots of %v end at %d", s, addr)
			}
			for _, slot := range strangeSlots(s.Class) {
				checkSpanAddr(t, s, slot, -1)
			}
		}
	}
}

// outsideOf are addresses that are not in a page: just before and behind it, of other pages, negative, and far away.
func outsideOf(page int) []int {
	list := []int{16*page - 1, 16*page - 2, 16*page - 8, 16*page - 15, 16*page - 16, 16*page - 17, 16*page + 16, 16*page + 17, 16*page + 24, 16*page + 31, 16*page + 32, 16*page + 512, 16*page + 1<<32, 16*page + 1<<62, math.MaxInt - 15, -16 * 32, -15, -14, -8, -3}
	for _, addr := range append(noIndexes(), 0, 15, 16, 255, 496, 511, 512) {
		if addr < 16*page || addr >= 16*page+16 {
			list = append(list, addr)
		}
	}
	if page > 0 {
		list = append(list, -16*page, -16*page-1, -16*page+15)
	}
	return list
}

func TestSlotAtOutsideOfThePage(t *testing.T) {
	for page := range 32 {
		for _, slots := range someSlots() {
			for _, addr := range outsideOf(page) {
				checkSlotAt(t, spanOf(page, slots), addr, -1, -1)
			}
		}
	}
}

func TestSlotAt(t *testing.T) {
	cases := []struct {
		page               int
		slots              string
		addr, slot, offset int
	}{
		{0, "x.", -1, -1, -1}, {0, "x.", 0, 0, 0}, {0, "x.", 7, 0, 7}, {0, "x.", 8, 1, 0}, {0, "x.", 15, 1, 7}, {0, "x.", 16, -1, -1},
		{2, "x.x.", 31, -1, -1}, {2, "x.x.", 32, 0, 0}, {2, "x.x.", 35, 0, 3}, {2, "x.x.", 36, 1, 0}, {2, "x.x.", 37, 1, 1}, {2, "x.x.", 47, 3, 3}, {2, "x.x.", 48, -1, -1},
		{31, "xxxxxxxx", 495, -1, -1}, {31, "xxxxxxxx", 496, 0, 0}, {31, "xxxxxxxx", 497, 0, 1}, {31, "xxxxxxxx", 511, 7, 1}, {31, "xxxxxxxx", 512, -1, -1},
		{1, noted(16, '.'), 15, -1, -1}, {1, noted(16, '.'), 16, 0, 0}, {1, noted(16, '.'), 17, 1, 0}, {1, noted(16, '.'), 31, 15, 0}, {1, noted(16, '.'), 32, -1, -1},
	}
	for _, c := range cases {
		checkSlotAt(t, spanOf(c.page, c.slots), c.addr, c.slot, c.offset)
	}
}

// Each address of the memory is in one page, and in its slot at the distance from the address of the slot.
func TestSlotAtOfEachAddress(t *testing.T) {
	for addr := -40; addr < 560; addr++ {
		for class := range impl.Classes {
			pages := 0
			for page := range 32 {
				s := spanOf(page, noted(slotCount(class), '.'))
				slot, offset := impl.SlotAt(s, addr)
				if slot < 0 {
					continue
				}
				pages++
				if impl.SpanAddr(s, slot)+offset != addr || offset < 0 || offset >= cellsOf(class) {
					t.Errorf("SlotAt(%v, %d) = %d, %d", s, addr, slot, offset)
				}
			}
			if there := addr >= 0 && addr < 512; there != (pages == 1) || !there && pages != 0 {
				t.Errorf("address %d is in %d pages", addr, pages)
			}
		}
	}
}

func TestSpanCells(t *testing.T) {
	checkSpanCells(t, spanOf(2, "x.x."), 0, 1, 2, 3, 8, 9, 10, 11)
	checkSpanCells(t, spanOf(2, ".x.."), 4, 5, 6, 7)
	checkSpanCells(t, spanOf(0, "x."), 0, 1, 2, 3, 4, 5, 6, 7)
	checkSpanCells(t, spanOf(31, ".x"), 8, 9, 10, 11, 12, 13, 14, 15)
	checkSpanCells(t, spanOf(31, ".x.....x"), 2, 3, 14, 15)
	checkSpanCells(t, spanOf(1, "x..............x"), 0, 15)
	checkSpanCells(t, spanOf(1, "...............x"), 15)
	checkSpanCells(t, spanOf(5, ".."))
}

// Of each span, the cells are those of its slots in use and no others, in ascending order and whatever its page is.
func TestSpanCellsOfEachSpan(t *testing.T) {
	page := 0
	eachText(func(class int, slots string) {
		checkSpanCells(t, spanOf(page, slots), cellsIn(slots)...)
		page = (page + 1) % 32
	})
}

// A span is full if it has no free slot; with one free slot, whichever it is, it is not.
func TestSpanFull(t *testing.T) {
	eachText(func(class int, slots string) {
		for _, page := range []int{0, 13, 31} {
			checkFull(t, spanOf(page, slots), !strings.Contains(slots, "."))
		}
	})
}

// A span is filled slot by slot, no slot twice, and emptied again; it is full at the end of the takes only.
func TestFillAndEmpty(t *testing.T) {
	for class := range impl.Classes {
		for start := range 50 {
			s, seed := spanOf(9, noted(slotCount(class), '.')), start*7919
			steps, taken := []impl.Span{}, []int{}
			for range slotCount(class) {
				checkFull(t, s, false)
				after, slot, next, ok := impl.SpanTake(s, seed)
				if !ok || slices.Contains(taken, slot) {
					t.Fatalf("SpanTake(%v, %d) = %v, %d, %v after the slots %v", s, seed, after, slot, ok, taken)
				}
				steps, taken = append(steps, s), append(taken, slot)
				s, seed = after, next
			}
			if s != spanOf(9, noted(slotCount(class), 'x')) {
				t.Errorf("the slots %v are taken: %v", taken, s)
			}
			checkFull(t, s, true)
			checkNoTake(t, s, seed)
			for i := len(steps) - 1; i >= 0; i-- {
				checkSpanGive(t, s, taken[i], steps[i], true)
				s = steps[i]
			}
		}
	}
}

// A span follows a text through takes and gives of any slots.
func TestSpansFollowTexts(t *testing.T) {
	seed := 1
	for class := range impl.Classes {
		page := 8 * class
		slots := noted(slotCount(class), '.')
		s := spanOf(page, slots)
		for step := range 3000 {
			name := fmt.Sprint("step ", step, " of class ", class)
			if step/20%2 == 0 && strings.Contains(slots, ".") {
				after, slot, next, ok := impl.SpanTake(s, seed)
				if !ok || slot < 0 || slot >= len(slots) || slots[slot] != '.' || next != seedAfter(seed) {
					t.Fatalf("%s: SpanTake(%v, %d) = %v, %d, %d, %v", name, s, seed, after, slot, next, ok)
				}
				s, slots, seed = after, withLetter(slots, slot, "x"), next
			} else {
				slot := seed/1024%(len(slots)+4) - 2
				after, ok := impl.SpanGive(s, slot)
				used := slot >= 0 && slot < len(slots) && slots[slot] == 'x'
				if ok != used {
					t.Fatalf("%s: SpanGive(%v, %d) = %v, %v", name, s, slot, after, ok)
				}
				if used {
					slots = withLetter(slots, slot, ".")
				}
				s, seed = after, seedAfter(seed)
			}
			if s != spanOf(page, slots) || impl.SpanFull(s) != !strings.Contains(slots, ".") || !slices.Equal(impl.SpanCells(s), cellsIn(slots)) {
				t.Fatalf("%s: the span is %v, want %q on page %d", name, s, slots, page)
			}
		}
	}
}
