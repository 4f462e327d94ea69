package tests

import (
	"fmt"
	"slices"
	"strings"
	"testing"

	"loop.example/g00978/impl"
)

// spansOf builds the spans of a list by hand, on the pages 0, 1 and so on.
func spansOf(texts ...string) []impl.Span {
	list := []impl.Span{}
	for page, slots := range texts {
		list = append(list, spanOf(page, slots))
	}
	return list
}

// withSpan returns list with one span replaced.
func withSpan(list []impl.Span, i int, s impl.Span) []impl.Span {
	list = slices.Clone(list)
	list[i] = s
	return list
}

// onPage returns s on another page.
func onPage(s impl.Span, page int) impl.Span {
	s.Page = page
	return s
}

// behindSpans are spans that would change a result if they were taken for elements: two of them are Meshable, with many elements too, and one is not valid.
func behindSpans(list []impl.Span) []impl.Span {
	class := 1
	if len(list) > 0 {
		class = list[0].Class
	}
	return []impl.Span{{Page: 30, Class: class}, {Page: 31, Class: class}, {Page: -1, Class: -1, Bits: -1}}
}

// roomySpans returns a list that equals list and has other spans in the spare capacity behind it.
func roomySpans(list []impl.Span) []impl.Span {
	return append(slices.Clone(list), behindSpans(list)...)[:len(list)]
}

// untouchedSpans reports whether a list that roomySpans returned equals list still, with the same behind it.
func untouchedSpans(roomy []impl.Span, list []impl.Span) bool {
	behind := behindSpans(list)
	return slices.Equal(roomy, list) && slices.Equal(roomy[len(roomy):cap(roomy)][:len(behind)], behind)
}

// fits reports whether no slot is in use in both texts, which have the same length.
func fits(a string, b string) bool {
	for i := range len(a) {
		if a[i] == 'x' && b[i] == 'x' {
			return false
		}
	}
	return true
}

// opposite is the text in which exactly the free slots of another are in use.
func opposite(slots string) string {
	return strings.NewReplacer("x", ".", ".", "x").Replace(slots)
}

// checkMeshable checks a result for both orders of the spans.
func checkMeshable(t *testing.T, a impl.Span, b impl.Span, want bool) {
	t.Helper()
	if got := impl.Meshable(a, b); got != want {
		t.Errorf("Meshable(%v, %v) is %v", a, b, got)
	}
	if got := impl.Meshable(b, a); got != want {
		t.Errorf("Meshable(%v, %v) is %v", b, a, got)
	}
}

// checkSpans makes a call with a list that has spare capacity, and checks the result and that the list and what is behind it stay as they were.
func checkSpans[R comparable](t *testing.T, name string, list []impl.Span, want R, call func([]impl.Span) R) {
	t.Helper()
	argument := roomySpans(list)
	if got := call(argument); got != want {
		t.Errorf("%s of %v is %v, want %v", name, list, got, want)
	}
	if !untouchedSpans(argument, list) {
		t.Errorf("%s has changed %v", name, list)
	}
}

func checkGroupOk(t *testing.T, list []impl.Span, want bool) {
	t.Helper()
	checkSpans(t, "GroupOk", list, want, impl.GroupOk)
}

func checkGroupBits(t *testing.T, list []impl.Span, want int) {
	t.Helper()
	checkSpans(t, "GroupBits", list, want, impl.GroupBits)
}

func checkGroupSlot(t *testing.T, list []impl.Span, slot int, want int) {
	t.Helper()
	checkSpans(t, fmt.Sprint("GroupSlot(", slot, ")"), list, want, func(list []impl.Span) int {
		return impl.GroupSlot(list, slot)
	})
}

func checkEdges(t *testing.T, list []impl.Span, want int) {
	t.Helper()
	checkSpans(t, "MeshEdges", list, want, impl.MeshEdges)
}

// nearSlots are all slots that a class can have and numbers next to them.
func nearSlots() []int {
	return []int{-2, -1, 0, 1, 2, 3, 4, 5, 6, 7, 8, 9, 10, 11, 12, 13, 14, 15, 16, 17}
}

// checkGroup checks all functions on a list that is a group. The holders tell for each slot in which span it is in use, or -1.
func checkGroup(t *testing.T, list []impl.Span, holders ...int) {
	t.Helper()
	checkGroupOk(t, list, true)
	checkEdges(t, list, len(list)*(len(list)-1)/2)
	used := 0
	for slot, holder := range holders {
		if holder >= 0 {
			used += powers()[slot]
		}
	}
	checkGroupBits(t, list, used)
	for _, slot := range append(nearSlots(), noSlots()...) {
		holder := -1
		if slot >= 0 && slot < len(holders) {
			holder = holders[slot]
		}
		checkGroupSlot(t, list, slot, holder)
	}
}

// checkNoGroup checks that a list is no group, so that it has neither a bitmap nor a slot.
func checkNoGroup(t *testing.T, list []impl.Span) {
	t.Helper()
	checkGroupOk(t, list, false)
	checkGroupBits(t, list, 0)
	for _, slot := range append(nearSlots(), noSlots()...) {
		checkGroupSlot(t, list, slot, -1)
	}
}

func TestMeshable(t *testing.T) {
	cases := []struct {
		a, b string
		want bool
	}{
		{"x.", ".x", true}, {"x.", "x.", false}, {".x", ".x", false}, {"x.", "..", true}, {"xx", ".x", false},
		{"x.x.", ".x.x", true}, {"x.x.", ".xxx", false}, {"x...", "...x", true}, {"...x", "...x", false}, {"x.x.", "....", true},
		{"xxxx....", "....xxxx", true}, {"xxxx....", "...xxxxx", false}, {"x......x", ".xxxxxx.", true}, {".......x", ".......x", false},
		{strings.Repeat("x.", 8), strings.Repeat(".x", 8), true},
		{noted(15, 'x') + ".", noted(15, '.') + "x", true},
		{noted(15, 'x') + ".", noted(14, '.') + "xx", false},
		{noted(15, '.') + "x", noted(15, '.') + "x", false},
		{"x" + noted(15, '.'), "x" + noted(14, '.') + "x", false},
	}
	for _, c := range cases {
		checkMeshable(t, spanOf(0, c.a), spanOf(1, c.b), c.want)
		checkMeshable(t, spanOf(31, c.a), spanOf(4, c.b), c.want)
	}
}

// All pairs of spans of the classes that have at most 8 slots.
func TestMeshableOfAllPairs(t *testing.T) {
	for class := 1; class < impl.Classes; class++ {
		for _, a := range slotTexts(class) {
			for _, b := range slotTexts(class) {
				checkMeshable(t, spanOf(2, a), spanOf(30, b), fits(a, b))
			}
		}
	}
}

// Each span is Meshable with the one that uses exactly its free slots, and no longer if one more slot is in use in either.
func TestMeshableWithTheOpposite(t *testing.T) {
	more := 0
	eachText(func(class int, slots string) {
		a, b := spanOf(0, slots), spanOf(31, opposite(slots))
		checkMeshable(t, a, b, true)
		checkMeshable(t, a, onPage(b, 0), false)
		more = (more + 1) % len(slots)
		checkMeshable(t, spanOf(0, withLetter(slots, more, "x")), b, slots[more] == 'x')
		checkMeshable(t, a, spanOf(31, withLetter(opposite(slots), more, "x")), slots[more] == '.')
	})
}

// One slot in use in both, whichever it is, is enough, with all other slots free or in use in one of them.
func TestMeshableWithOneSlotInBoth(t *testing.T) {
	for class := range impl.Classes {
		count := slotCount(class)
		for slot := range count {
			for _, slots := range []string{noted(count, '.'), noted(count, 'x'), strings.Repeat("x.", count/2), strings.Repeat(".x", count/2)} {
				a, b := spanOf(3, withLetter(slots, slot, "x")), spanOf(5, withLetter(opposite(slots), slot, "x"))
				checkMeshable(t, a, b, false)
				checkMeshable(t, spanOf(3, withLetter(slots, slot, ".")), b, true)
				checkMeshable(t, a, spanOf(5, withLetter(opposite(slots), slot, ".")), true)
			}
		}
	}
}

// Spans of different classes are not Meshable, although no slot, cell or bit is in use in both.
func TestMeshableOfDifferentClasses(t *testing.T) {
	for _, pair := range [][2]string{{"x.", "..x."}, {"x.", ".x.."}, {"..", "...."}, {"x...", ".......x"}, {".x..", "x......."}, {"........", noted(16, '.')}, {"..", noted(16, '.')}, {"x.", noted(15, '.') + "x"}, {"x.......", ".x" + noted(14, '.')}, {"..", "xxxx"}, {"xxxxxxxx", noted(16, '.')}} {
		checkMeshable(t, spanOf(0, pair[0]), spanOf(1, pair[1]), false)
		checkMeshable(t, spanOf(1, pair[0]), spanOf(0, pair[1]), false)
		checkNoGroup(t, spansOf(pair[0], pair[1]))
		checkEdges(t, spansOf(pair[0], pair[1]), 0)
	}
	for class := range impl.Classes {
		for other := range impl.Classes {
			for _, bits := range [][2]int{{0, 0}, {1, 2}, {2, 1}, {3, 0}, {0, 1}} {
				checkMeshable(t, impl.Span{Page: 6, Class: class, Bits: bits[0]}, impl.Span{Page: 7, Class: other, Bits: bits[1]}, class == other)
			}
		}
	}
}

// Spans are Meshable on any two pages, and never on the same one.
func TestMeshableOnEachPage(t *testing.T) {
	for class := range impl.Classes {
		count := slotCount(class)
		for page := range 32 {
			for other := range 32 {
				checkMeshable(t, spanOf(page, noted(count, '.')), spanOf(other, noted(count, '.')), page != other)
				checkMeshable(t, spanOf(page, strings.Repeat("x.", count/2)), spanOf(other, strings.Repeat(".x", count/2)), page != other)
				checkMeshable(t, spanOf(page, noted(count, 'x')), spanOf(other, noted(count, 'x')), false)
			}
		}
	}
}

// A full span is Meshable with an empty one of its class only: not with one that has a single slot in use. An empty one is Meshable with each, with another empty one too.
func TestMeshableOfFullAndEmptySpans(t *testing.T) {
	eachText(func(class int, slots string) {
		count := slotCount(class)
		s, full, empty := spanOf(8, slots), spanOf(9, noted(count, 'x')), spanOf(10, noted(count, '.'))
		checkMeshable(t, s, full, !strings.Contains(slots, "x"))
		checkMeshable(t, s, empty, true)
	})
	for class := range impl.Classes {
		count := slotCount(class)
		full, empty := spanOf(9, noted(count, 'x')), spanOf(10, noted(count, '.'))
		checkMeshable(t, full, empty, true)
		checkMeshable(t, empty, onPage(empty, 11), true)
		checkMeshable(t, empty, empty, false)
		for slot := range count {
			checkMeshable(t, full, spanOf(10, withLetter(noted(count, '.'), slot, "x")), false)
		}
	}
}

// A span that is not valid is Meshable with none, in either place: not with an empty one of each class, nor with itself on another page, nor with its own kind.
func TestMeshableOfInvalidSpans(t *testing.T) {
	for _, bad := range badSpans() {
		for class := range impl.Classes {
			for _, page := range []int{0, 31, 7} {
				checkMeshable(t, bad, impl.Span{Page: page, Class: class}, false)
				checkMeshable(t, bad, impl.Span{Page: page, Class: bad.Class}, false)
				checkMeshable(t, bad, impl.Span{Page: page, Class: class, Bits: bad.Bits}, false)
			}
		}
		checkMeshable(t, bad, bad, false)
		checkMeshable(t, bad, impl.Span{Page: bad.Page + 1, Class: bad.Class}, false)
		checkMeshable(t, impl.Span{Page: bad.Page - 1, Class: bad.Class, Bits: bad.Bits}, bad, false)
	}
}

func TestGroups(t *testing.T) {
	checkGroup(t, spansOf("x.", ".x"), 0, 1)
	checkGroup(t, spansOf(".x", "x."), 1, 0)
	checkGroup(t, spansOf("x.x.", ".x.x"), 0, 1, 0, 1)
	checkGroup(t, spansOf("x...", ".x..", "..x.", "...x"), 0, 1, 2, 3)
	checkGroup(t, spansOf("....", "x..x", "....", ".x.."), 1, 3, -1, 1)
	checkGroup(t, spansOf("xx......", "..xx....", "......xx"), 0, 0, 1, 1, -1, -1, 2, 2)
	checkGroup(t, spansOf(strings.Repeat(".x", 8), noted(16, '.'), strings.Repeat("x.", 8)), 2, 0, 2, 0, 2, 0, 2, 0, 2, 0, 2, 0, 2, 0, 2, 0)
	checkGroup(t, spansOf("x"+noted(15, '.'), noted(15, '.')+"x"), 0, -1, -1, -1, -1, -1, -1, -1, -1, -1, -1, -1, -1, -1, -1, 1)
	checkGroup(t, []impl.Span{spanOf(31, "x.x."), spanOf(0, ".x..")}, 0, 1, 0, -1)
}

// An empty list is no group, whether it is nil or not and whatever is behind it.
func TestEmptyGroups(t *testing.T) {
	for _, list := range [][]impl.Span{nil, {}, spansOf("x.x.", ".x..")[:0]} {
		checkNoGroup(t, list)
		checkEdges(t, list, 0)
		if impl.GroupOk(list) || impl.GroupBits(list) != 0 || impl.GroupSlot(list, 0) != -1 || impl.MeshEdges(list) != 0 {
			t.Errorf("the list %#v is a group", list)
		}
	}
}

// A list of one span is a group if the span is valid; all its slots are in span 0.
func TestGroupsOfOneSpan(t *testing.T) {
	for page := range 32 {
		for _, slots := range someSlots() {
			holders := []int{}
			for i := range len(slots) {
				holders = append(holders, strings.Index(".x", slots[i:i+1])-1)
			}
			checkGroup(t, []impl.Span{spanOf(page, slots)}, holders...)
		}
	}
	for _, bad := range badSpans() {
		checkGroupOk(t, []impl.Span{bad}, false)
		checkGroupBits(t, []impl.Span{bad}, 0)
		checkEdges(t, []impl.Span{bad}, 0)
		for slot := -1; slot <= 16; slot++ {
			checkGroupSlot(t, []impl.Span{bad}, slot, -1)
		}
	}
}

// A span that is not valid spoils a group at each place, and has no edge.
func TestGroupsWithInvalidSpans(t *testing.T) {
	for n, bad := range badSpans() {
		list := []impl.Span{spanOf(3, "x..."), spanOf(4, ".x.."), spanOf(5, "....")}
		if class := bad.Class; class >= 0 && class < impl.Classes {
			list = []impl.Span{{Page: 3, Class: class, Bits: 1}, {Page: 4, Class: class, Bits: 2}, {Page: 5, Class: class}}
		}
		i := n % 4
		list = slices.Insert(list, i, bad)
		checkGroupOk(t, list, false)
		checkGroupBits(t, list, 0)
		checkGroupSlot(t, list, 0, -1)
		checkGroupSlot(t, list, 1, -1)
		checkEdges(t, list, 3)
		checkGroup(t, slices.Delete(list, i, i+1), 0, 1)
	}
}

// The bitmap of a group that covers its page is that of a full span, with few spans and with one for each slot.
func TestGroupsThatCoverThePage(t *testing.T) {
	full := []int{65535, 255, 15, 3}
	for class := range impl.Classes {
		count := slotCount(class)
		list, holders := []impl.Span{}, []int{}
		for slot := range count {
			list = append(list, spanOf(31-slot, withLetter(noted(count, '.'), slot, "x")))
			holders = append(holders, slot)
		}
		checkGroup(t, list, holders...)
		checkGroupBits(t, list, full[class])
		list = append(list, spanOf(0, noted(count, '.')))
		checkGroup(t, list, holders...)
		for slot := range count {
			broken := withSpan(list, count, spanOf(0, withLetter(noted(count, '.'), slot, "x")))
			checkNoGroup(t, broken)
			checkEdges(t, broken, count*(count+1)/2-1)
		}
		checkGroup(t, []impl.Span{spanOf(1, noted(count, '.')), spanOf(0, noted(count, 'x'))}, slices.Repeat([]int{1}, count)...)
		checkGroupBits(t, []impl.Span{spanOf(0, noted(count, 'x')), spanOf(1, noted(count, '.'))}, full[class])
	}
}

// A group of empty spans, up to one on each page, has no slot in use and is a group all the same.
func TestGroupsOfEmptySpans(t *testing.T) {
	for class := range impl.Classes {
		list, none := []impl.Span{}, slices.Repeat([]int{-1}, slotCount(class))
		for page := range 32 {
			list = append(list, impl.Span{Page: page, Class: class})
			checkGroup(t, list, none...)
		}
		for _, page := range []int{-1, 0, 16, 31, 32} {
			longer := append(slices.Clone(list), impl.Span{Page: page, Class: class})
			checkNoGroup(t, longer)
			if page < 0 || page > 31 {
				checkEdges(t, longer, 32*31/2)
			} else {
				checkEdges(t, longer, 32*31/2+31)
			}
		}
	}
}

// misfits returns the lists that differ from a list of empty spans in that exactly the spans at i and k are not Meshable.
func misfits(class int, n int, i int, k int) [][]impl.Span {
	list := []impl.Span{}
	for page := range n {
		list = append(list, impl.Span{Page: 31 - page, Class: class})
	}
	last := slotCount(class) - 1
	first := impl.Span{Class: class, Bits: 1}
	end := impl.Span{Class: class, Bits: powers()[last]}
	lists := [][]impl.Span{withSpan(list, k, list[i]), withSpan(list, i, list[k])}
	for _, s := range []impl.Span{first, end} {
		lists = append(lists, withSpan(withSpan(list, i, onPage(s, 31-i)), k, onPage(s, 31-k)))
	}
	return lists
}

// One pair that is not Meshable spoils a group, be it the first two elements, the last two, or any others.
func TestGroupsWithOneMisfit(t *testing.T) {
	for class := range impl.Classes {
		for _, n := range []int{2, 3, 4, 7, 32} {
			for k := range n {
				for i := range k {
					for _, list := range misfits(class, n, i, k) {
						checkGroupOk(t, list, false)
						checkGroupBits(t, list, 0)
						checkGroupSlot(t, list, 0, -1)
						checkGroupSlot(t, list, slotCount(class)-1, -1)
						checkEdges(t, list, n*(n-1)/2-1)
					}
				}
			}
		}
	}
}

// A list in which only the last two elements are not Meshable: for each reason that leaves the other pairs Meshable.
func TestGroupsWhoseLastTwoDoNotFit(t *testing.T) {
	for _, list := range [][]impl.Span{
		spansOf("x...", ".x..", "..xx", "..x."),
		spansOf("x...", ".x..", "...x", "...x"),
		spansOf("x...", "....", ".xxx", ".x.."),
		{spanOf(0, "x..."), spanOf(1, ".x.."), spanOf(2, "..x."), spanOf(2, "...x")},
		{spanOf(0, "x..."), spanOf(1, ".x.."), spanOf(2, "...."), spanOf(2, "....")},
	} {
		checkNoGroup(t, list)
		checkEdges(t, list, 5)
		checkGroupOk(t, list[:3], true)
		checkGroupOk(t, append(list[:2:2], list[3]), true)
	}
	checkNoGroup(t, spansOf("x.", "..x."))
	checkNoGroup(t, []impl.Span{spanOf(0, "x..."), spanOf(1, ".x.."), spanOf(2, "..")})
	checkNoGroup(t, []impl.Span{spanOf(2, ".."), spanOf(0, "x..."), spanOf(1, ".x..")})
}

// GroupSlot at the ends of its range, of the first span, of the last one and of none.
func TestGroupSlotAtTheLimits(t *testing.T) {
	list := spansOf("x......x"+noted(8, '.'), noted(16, '.'), noted(15, '.')+"x")
	for _, c := range [][2]int{{-1, -1}, {0, 0}, {1, -1}, {7, 0}, {8, -1}, {14, -1}, {impl.MaxSlots - 1, 2}, {impl.MaxSlots, -1}, {impl.MaxSlots + 1, -1}, {64, -1}, {79, -1}, {-16, -1}} {
		checkGroupSlot(t, list, c[0], c[1])
	}
	free := spansOf("x"+noted(15, '.'), ".x"+noted(14, '.'))
	checkGroupSlot(t, free, impl.MaxSlots-1, -1)
	checkGroupSlot(t, free, impl.MaxSlots, -1)
	for _, none := range [][]impl.Span{nil, append(slices.Clone(list), list[0]), append(spansOf("x."), list...), {{Page: 32, Bits: 65535}}, {{Page: 1, Bits: 65536 + 32768}}} {
		for _, slot := range []int{-1, 0, 7, 15, 16, 17} {
			checkGroupSlot(t, none, slot, -1)
		}
	}
	for class := range impl.Classes {
		count := slotCount(class)
		list := []impl.Span{spanOf(0, noted(count, '.')), spanOf(1, noted(count, 'x'))}
		for _, slot := range strangeSlots(class) {
			checkGroupSlot(t, list, slot, -1)
		}
		checkGroupSlot(t, list, count-1, 1)
	}
}

// dealt deals the slots of a class to n spans, some slots to none, and returns the spans on different pages and the holder of each slot.
func dealt(class int, n int, seed int) ([]impl.Span, []int, int) {
	count := slotCount(class)
	texts, holders := slices.Repeat([]string{noted(count, '.')}, n), []int{}
	for slot := range count {
		seed = seedAfter(seed)
		holder := seed/1024%(n+1) - 1
		holders = append(holders, holder)
		if holder >= 0 {
			texts[holder] = withLetter(texts[holder], slot, "x")
		}
	}
	list := []impl.Span{}
	for i, slots := range texts {
		list = append(list, spanOf((i*7+seed/1024)%32, slots))
	}
	return list, holders, seed
}

// In a group, each slot in use belongs to exactly one span. Any change after which a slot belongs to two spans, or a page, leaves no group.
func TestSlotsBelongToOneSpan(t *testing.T) {
	seed := 1
	for round := range 400 {
		class, n := round%4, 2+round/4%9
		list, holders, next := dealt(class, n, seed)
		seed = next
		checkGroup(t, list, holders...)
		for slot := range slotCount(class) {
			for i, s := range list {
				if inUse := holders[slot] == i; bitOf(s.Bits, slot) != inUse {
					t.Fatalf("slot %d of %v is dealt to %d", slot, list, holders[slot])
				}
			}
		}
		i := seed / 1024 % n
		k := (i + 1) % n
		broken := withSpan(list, k, onPage(list[k], list[i].Page))
		checkGroupOk(t, broken, false)
		checkEdges(t, broken, n*(n-1)/2-1)
		for slot, holder := range holders {
			if holder >= 0 {
				other := (holder + 1) % n
				more := list[other]
				more.Bits += powers()[slot]
				checkGroupOk(t, withSpan(list, other, more), false)
				checkGroupBits(t, withSpan(list, other, more), 0)
				checkGroupSlot(t, withSpan(list, other, more), slot, -1)
				checkEdges(t, withSpan(list, other, more), n*(n-1)/2-1)
			}
		}
	}
}

// A list of one span has no pair; of longer ones, all pairs are edges, or none, or some, whatever the order is.
func TestMeshEdges(t *testing.T) {
	for _, c := range []struct {
		list []impl.Span
		want int
	}{
		{spansOf("x.x."), 0},
		{spansOf("...."), 0},
		{spansOf("x...", ".x..", "..x.", "...x"), 6},
		{spansOf("....", "....", "....", "....", "...."), 10},
		{spansOf("xxxx", "xxxx", "xxxx"), 0},
		{spansOf("x...", "x.x.", "xx.."), 0},
		{slices.Repeat(spansOf("...."), 5), 0},
		{spansOf("x...", ".x..", "x...", ".x.."), 4},
		{spansOf("x.x.", ".x.x", "x...", ".x..", "xxxx", "...."), 9},
		{spansOf("x.", ".x..", "..", "x...", ".x"), 4},
		{[]impl.Span{spanOf(0, ".."), spanOf(0, "x."), spanOf(1, ".x"), spanOf(1, "..")}, 4},
		{[]impl.Span{spanOf(-1, "...."), spanOf(32, "....")}, 0},
		{[]impl.Span{spanOf(-1, "...."), spanOf(1, "x..."), spanOf(32, "...."), spanOf(2, ".x.."), {Page: 3, Class: 2, Bits: 16}, {Page: 4, Class: 4}}, 1},
	} {
		checkEdges(t, c.list, c.want)
		slices.Reverse(c.list)
		checkEdges(t, c.list, c.want)
	}
}

// placed is a span for the model: a page, a text of slots, and whether the span that is built from it is made invalid.
type placed struct {
	page  int
	slots string
	bad   bool
}

func (p placed) span(bad []impl.Span) impl.Span {
	if p.bad {
		return bad[p.page*len(bad)/32]
	}
	return spanOf(p.page, p.slots)
}

func (p placed) meshes(q placed) bool {
	return !p.bad && !q.bad && p.page != q.page && len(p.slots) == len(q.slots) && fits(p.slots, q.slots)
}

// somePlaced makes n spans of the given number of classes, with a slot in use less often the higher sparse is.
func somePlaced(n int, classes int, sparse int, seed int) ([]placed, int) {
	list := []placed{}
	draw := func(n int) int {
		seed = seedAfter(seed)
		return seed / 1024 % n
	}
	for range n {
		p := placed{page: draw(32), slots: noted(slotCount(3-draw(classes)), '.'), bad: draw(9) == 0}
		for i := range len(p.slots) {
			if draw(sparse) == 0 {
				p.slots = withLetter(p.slots, i, "x")
			}
		}
		list = append(list, p)
	}
	return list, seed
}

// Of lists of any spans, some of which are not valid, the edges are counted pair by pair in a model, and a list is a group if all pairs of at least one are edges.
func TestMeshEdgesFollowTheModel(t *testing.T) {
	seed, bad, groups := 5, badSpans(), 0
	for round := range 1500 {
		model, next := somePlaced(round%14, 1+round/14%4, 2+round%7, seed)
		seed = next
		list, edges := []impl.Span{}, 0
		for k, p := range model {
			for _, q := range model[:k] {
				if p.meshes(q) {
					edges++
				}
			}
			list = append(list, p.span(bad))
		}
		checkEdges(t, list, edges)
		ok := len(list) > 0 && edges == len(list)*(len(list)-1)/2 && (len(list) > 1 || !model[0].bad)
		checkGroupOk(t, list, ok)
		if ok {
			groups++
		} else {
			checkNoGroup(t, list)
		}
	}
	if groups < 20 {
		t.Error("the model has", groups, "groups only")
	}
}

// The lists of MeshEdges and GroupOk have no limit.
func TestLongLists(t *testing.T) {
	list := []impl.Span{}
	for i := range 640 {
		list = append(list, impl.Span{Page: i % 32, Class: 3, Bits: i / 32 % 2})
	}
	// Each of 32 pages has 10 spans of each kind; pairs on one page and pairs of the second kind do not fit.
	checkEdges(t, list, (32*31/2)*(20*20-10*10))
	checkNoGroup(t, list)
	checkGroupOk(t, slices.Repeat(list, 200), false)
}
