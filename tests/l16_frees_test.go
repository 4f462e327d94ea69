package tests

import (
	"maps"
	"math"
	"slices"
	"strconv"
	"testing"

	"loop.example/g00978/impl"
)

// lateOf builds a free of any numbers.
func lateOf(index int, slot int) impl.Late {
	return impl.Late{Index: index, Slot: slot}
}

// latesOf builds a list of frees from an index and a slot for each.
func latesOf(numbers ...int) []impl.Late {
	list := []impl.Late{}
	for i := 0; i < len(numbers); i += 2 {
		list = append(list, lateOf(numbers[i], numbers[i+1]))
	}
	return list
}

// noLate is what the tests put where no function may look or write.
var noLate = lateOf(0, beyond)

// roomyLates returns a list that equals list and has spare capacity behind it.
func roomyLates(list []impl.Late) []impl.Late {
	return append(slices.Clone(list), noLate, noLate)[:len(list)]
}

// untouchedLates reports whether a list that roomyLates returned equals list still, with the same behind it.
func untouchedLates(roomy []impl.Late, list []impl.Late) bool {
	return slices.Equal(roomy, list) && slices.Equal(roomy[len(roomy):cap(roomy)][:2], []impl.Late{noLate, noLate})
}

func scribbleLates(list []impl.Late) {
	for i := range list[:cap(list)] {
		list[:cap(list)][i] = lateOf(2*beyond, 2*beyond)
	}
}

func scribbleSpans(list []impl.Span) {
	for i := range list[:cap(list)] {
		list[:cap(list)][i] = impl.Span{Page: 2 * beyond, Class: 2 * beyond, Bits: 2 * beyond}
	}
}

// checkFree checks all results of a call.
func checkFree(t *testing.T, k impl.Kernel, s impl.Span, slot int, wantKernel impl.Kernel, want impl.Span, code int) {
	t.Helper()
	checkCall(t, "FreeSlot of "+strconv.Itoa(slot), k, wantKernel, true, func(k impl.Kernel) (impl.Kernel, bool) {
		kernel, got, gotCode := impl.FreeSlot(k, s, slot)
		if got != want || gotCode != code {
			t.Errorf("FreeSlot(%v, %v, %d) = %v, %d, want %v, %d", k, s, slot, got, gotCode, want, code)
		}
		return kernel, true
	})
}

// checkNoFree checks that nothing is freed and everything comes back as it is.
func checkNoFree(t *testing.T, k impl.Kernel, s impl.Span, slot int, code int) {
	t.Helper()
	checkFree(t, k, s, slot, k, s, code)
}

// checkClear also checks that the argument stays as it was.
func checkClear(t *testing.T, k impl.Kernel, s impl.Span, slot int, want bool) {
	t.Helper()
	argument := roomyKernel(k)
	if got := impl.SlotClear(argument, s, slot); got != want {
		t.Errorf("SlotClear(%v, %v, %d) is %v", k, s, slot, got)
	}
	if !untouchedKernel(argument, k) {
		t.Errorf("SlotClear(%v, %v, %d) has changed the kernel", k, s, slot)
	}
}

func checkAdd(t *testing.T, list []impl.Late, x impl.Late, want []impl.Late, added bool) {
	t.Helper()
	argument := roomyLates(list)
	got, ok := impl.LateAdd(argument, x)
	if !slices.Equal(got, want) || ok != added {
		t.Errorf("LateAdd(%v, %v) = %v, %v, want %v, %v", list, x, got, ok, want, added)
	}
	if !untouchedLates(argument, list) {
		t.Errorf("LateAdd has changed %v", list)
	}
	scribbleLates(got)
	if !untouchedLates(argument, list) {
		t.Errorf("LateAdd(%v, %v): the result shares memory with the argument", list, x)
	}
}

// ward is what LateApply gets and returns.
type ward struct {
	kernel impl.Kernel
	spans  []impl.Span
	late   []impl.Late
}

func checkApply(t *testing.T, w ward, want ward) {
	t.Helper()
	checkCall(t, "LateApply", w.kernel, want.kernel, true, func(k impl.Kernel) (impl.Kernel, bool) {
		spans, list := roomySpans(w.spans), roomyLates(w.late)
		kernel, gotSpans, gotLate := impl.LateApply(k, spans, list)
		if !slices.Equal(gotSpans, want.spans) || !slices.Equal(gotLate, want.late) {
			t.Errorf("LateApply of %v: %v and %v, want %v and %v", w, gotSpans, gotLate, want.spans, want.late)
		}
		if !untouchedSpans(spans, w.spans) || !untouchedLates(list, w.late) {
			t.Errorf("LateApply of %v has changed the spans or the list", w)
		}
		scribbleSpans(gotSpans)
		scribbleLates(gotLate)
		if !untouchedSpans(spans, w.spans) || !untouchedLates(list, w.late) {
			t.Errorf("LateApply of %v: a result shares memory with an argument", w)
		}
		return kernel, true
	})
}

// slotsIn is the text of the slots of a span, or an empty one if the span is not valid.
func slotsIn(s impl.Span) string {
	if !impl.SpanOk(s) {
		return ""
	}
	slots := noted(slotCount(s.Class), '.')
	for slot := range len(slots) {
		if bitOf(s.Bits, slot) {
			slots = withLetter(slots, slot, "x")
		}
	}
	return slots
}

// cellsOfSlot are the cells of one slot of a class.
func cellsOfSlot(class int, slot int) []int {
	return cellsIn(withLetter(noted(slotCount(class), '.'), slot, "x"))
}

// wiped returns k with some cells of a frame set to 0.
func wiped(k impl.Kernel, frame int, cells []int) impl.Kernel {
	for _, at := range cells {
		k = cleared(k, frame, at)
	}
	return k
}

// freeModel returns what a free leaves, and its code.
func freeModel(k impl.Kernel, s impl.Span, slot int) (impl.Kernel, impl.Span, int) {
	slots, e := slotsIn(s), entryAt(k.Machine, s.Page)
	switch {
	case slot < 0 || slot >= len(slots) || slots[slot] == '.':
		return k, s, 1
	case !impl.KernelOk(k) || e.Mode == 0:
		return k, s, 3
	case e.Mode == 1:
		return k, s, 2
	}
	return wiped(k, e.Frame, cellsOfSlot(s.Class, slot)), spanOf(s.Page, withLetter(slots, slot, ".")), 0
}

// applied returns what the frees of a list leave.
func (w ward) applied() ward {
	left := ward{w.kernel, slices.Clone(w.spans), nil}
	for _, x := range w.late {
		if x.Index < 0 || x.Index >= len(left.spans) {
			continue
		}
		code := 0
		left.kernel, left.spans[x.Index], code = freeModel(left.kernel, left.spans[x.Index], x.Slot)
		if code == 2 {
			left.late = append(left.late, x)
		}
	}
	return left
}

// checkFreeByModel checks a call, and whether the slot is clear before and after it.
func checkFreeByModel(t *testing.T, k impl.Kernel, s impl.Span, slot int) {
	t.Helper()
	wantKernel, want, code := freeModel(k, s, slot)
	checkFree(t, k, s, slot, wantKernel, want, code)
	if code == 0 {
		checkClear(t, wantKernel, want, slot, true)
		checkFree(t, wantKernel, want, slot, wantKernel, want, 1)
	}
}

func TestCodesOfFrees(t *testing.T) {
	if impl.FrOk != 0 || impl.FrSlot != 1 || impl.FrWait != 2 || impl.FrPage != 3 || impl.MaxLate != 40 {
		t.Error("the codes and the limit are", impl.FrOk, impl.FrSlot, impl.FrWait, impl.FrPage, impl.MaxLate)
	}
}

// Page 0 is on frame 3, page 2 on frame 0, for reading only, page 3 on frame 1, page 1 is not mapped, and there are no others. Codes are written as numbers: 1 for the slot, 2 for waiting, 3 for the page.
func TestFreeSlot(t *testing.T) {
	const all = "xxxxxxxxxxxxxxxx"
	cases := []struct {
		page        int
		slots       string
		slot        int
		code        int
		left        string
		frame       int
		first, last int
	}{
		{0, "x.xx", 0, 0, "..xx", 3, 0, 3},
		{0, "x.xx", 2, 0, "x..x", 3, 8, 11},
		{0, "x.xx", 3, 0, "x.x.", 3, 12, 15},
		{0, "...x", 3, 0, "....", 3, 12, 15},
		{0, "xxxx", 1, 0, "x.xx", 3, 4, 7},
		{3, "xx", 0, 0, ".x", 1, 0, 7},
		{3, "xx", 1, 0, "x.", 1, 8, 15},
		{3, "x.", 0, 0, "..", 1, 0, 7},
		{3, "xxx..xxx", 0, 0, ".xx..xxx", 1, 0, 1},
		{0, "xxx..xxx", 5, 0, "xxx...xx", 3, 10, 11},
		{3, "xxx..xxx", 7, 0, "xxx..xx.", 1, 14, 15},
		{0, all, 0, 0, ".xxxxxxxxxxxxxxx", 3, 0, 0},
		{3, all, 7, 0, "xxxxxxx.xxxxxxxx", 1, 7, 7},
		{0, all, 15, 0, "xxxxxxxxxxxxxxx.", 3, 15, 15},
		{0, "x.xx", 1, 1, "x.xx", 0, 0, -1},
		{0, "x.xx", -1, 1, "x.xx", 0, 0, -1},
		{0, "x.xx", 4, 1, "x.xx", 0, 0, -1},
		{3, "xx", 2, 1, "xx", 0, 0, -1},
		{3, "..", 0, 1, "..", 0, 0, -1},
		{0, all, 16, 1, all, 0, 0, -1},
		{3, all, -1, 1, all, 0, 0, -1},
		{2, "x.xx", 0, 2, "x.xx", 0, 0, -1},
		{2, "x.xx", 3, 2, "x.xx", 0, 0, -1},
		{2, all, 15, 2, all, 0, 0, -1},
		{2, "x.xx", 1, 1, "x.xx", 0, 0, -1},
		{2, "x.xx", 4, 1, "x.xx", 0, 0, -1},
		{2, "x.xx", -1, 1, "x.xx", 0, 0, -1},
		{1, "x.xx", 0, 3, "x.xx", 0, 0, -1},
		{1, "xx", 1, 3, "xx", 0, 0, -1},
		{1, "x.xx", 1, 1, "x.xx", 0, 0, -1},
		{1, "x.xx", -1, 1, "x.xx", 0, 0, -1},
		{4, "x.xx", 0, 3, "x.xx", 0, 0, -1},
		{31, all, 15, 3, all, 0, 0, -1},
		{31, all, 16, 1, all, 0, 0, -1},
		{4, "..", 1, 1, "..", 0, 0, -1},
	}
	for _, c := range cases {
		k := kernelOf("w3 . r0 w1", "xx.x", 6, 8, 6)
		want := kernelOf("w3 . r0 w1", "xx.x", 6, 8, 6)
		for at := c.first; at <= c.last; at++ {
			withCell(want.Machine.Frames, c.frame, at, 0)
		}
		checkFree(t, k, spanOf(c.page, c.slots), c.slot, want, spanOf(c.page, c.left), c.code)
	}
}

// All valid machines of three pages and two frames, with spans on pages that are there and on one that is not.
func TestFreeSlotOnSmallKernels(t *testing.T) {
	for _, c := range kernelsOfThree() {
		for page := range 4 {
			for _, slots := range []string{"xx", ".x", "x.xx", "..x.", "xx.xxx.x"} {
				for _, slot := range []int{-1, 0, 1, 2, 3, 7, 8} {
					checkFreeByModel(t, c.kernel, spanOf(page, slots), slot)
				}
			}
		}
	}
}

// Each slot, in use or free, of spans of each class, and slots that the class does not have.
func TestFreeSlotOfEachSlot(t *testing.T) {
	k := kernelOf("r3 . w0 w1", "xx.x", 6, 6)
	check := func(slots string) {
		s := spanOf(3, slots)
		for slot := range len(slots) {
			checkFreeByModel(t, k, s, slot)
		}
		for _, slot := range strangeSlots(s.Class) {
			checkNoFree(t, k, s, slot, 1)
		}
	}
	for class := 1; class < impl.Classes; class++ {
		for _, slots := range slotTexts(class) {
			check(slots)
		}
	}
	for _, slots := range someSlots() {
		check(slots)
	}
}

// The span of a slot can be on each page of the largest machine, and on each of its frames.
func TestFreeSlotOnEachPage(t *testing.T) {
	words := ""
	for page := range 32 {
		words += "w" + strconv.Itoa(31-page) + " "
	}
	k := kernelOf(words, noted(32, 'x'), 0)
	for page := range 32 {
		for _, slots := range []string{"xx", "x..x", noted(16, 'x')} {
			for _, slot := range []int{0, 1, len(slots) - 1} {
				checkFreeByModel(t, k, spanOf(page, slots), slot)
			}
		}
	}
}

// An invalid span has the first code, also on a kernel that is not valid or a page that is protected, and comes back as it is. So has a free slot.
func TestFreeSlotOfInvalidSpans(t *testing.T) {
	valid, invalid := kernelOf("w3 r0 r0 w1", "xx.x", 6), kernelOf("w3 . r0 w1", "xx.x", -1)
	for _, s := range badSpans() {
		for _, slot := range []int{-1, 0, 1, 15, 16} {
			checkNoFree(t, valid, s, slot, 1)
			checkClear(t, valid, s, slot, false)
		}
		checkNoFree(t, invalid, s, 0, 1)
		checkNoFree(t, impl.Kernel{}, s, 1, 1)
	}
}

// A kernel that is not valid has the code of the page, also where the page is protected, but not for a slot that is free.
func TestFreeSlotOfInvalidKernels(t *testing.T) {
	for _, k := range badKernels() {
		for _, page := range []int{0, 1, 2, 3, 4, 31} {
			for slot, letter := range "xx.x" {
				code := 3
				if letter == '.' {
					code = 1
				}
				checkNoFree(t, k, spanOf(page, "xx.x"), slot, code)
			}
			checkNoFree(t, k, spanOf(page, "xx.x"), 4, 1)
			checkNoFree(t, k, spanOf(page, "xx.x"), -1, 1)
		}
	}
}

// A free is no kernel call: it is not counted, cannot be refused, and is performed on a kernel that takes no calls.
func TestFreeSlotIsNoKernelCall(t *testing.T) {
	for _, calls := range []int{0, 1, 99999, 100000} {
		for _, refuse := range goodRefuse() {
			k := kernelOf("w3 . r0 w1", "xx.x", calls, refuse...)
			checkFreeByModel(t, k, spanOf(3, "x.xx"), 2)
			checkFreeByModel(t, k, spanOf(2, "x.xx"), 2)
		}
	}
}

// What is freed at one page is cleared at each page on its frame. Whether the slot can be freed depends on the mode of its own page.
func TestFreeSlotOfPagesOnOneFrame(t *testing.T) {
	k := kernelOf("w2 r1 w0 r2 w2", "xxx", 0)
	for _, page := range []int{0, 4} {
		left, s, code := impl.FreeSlot(k, spanOf(page, "x..x"), 3)
		if code != 0 || s != spanOf(page, "x...") {
			t.Errorf("FreeSlot on page %d: %v, %d", page, s, code)
		}
		for _, other := range []int{0, 3, 4} {
			checkClear(t, left, spanOf(other, ".xx."), 3, true)
			for slot := range 3 {
				checkClear(t, left, spanOf(other, ".xx."), slot, false)
			}
			for at := range 12 {
				if v, fault := impl.Load(left.Machine, 16*other+at); v != 200+at || fault != 0 {
					t.Errorf("cell %d of page %d is %d with fault %d", at, other, v, fault)
				}
			}
		}
		checkFreeByModel(t, k, spanOf(page, "x..x"), 3)
	}
	checkNoFree(t, k, spanOf(3, "x..x"), 3, 2)
}

// In a group of spans on one frame, each free clears its own slot and leaves those of the other spans.
func TestFreeSlotsOfAGroup(t *testing.T) {
	spans := []impl.Span{spanOf(0, "x...x..."), spanOf(1, ".x....x."), spanOf(3, "..xx...x")}
	if !impl.GroupOk(spans) {
		t.Fatal("this is no group:", spans)
	}
	k := kernelOf("w1 w1 . w1", ".x", 0)
	for step := range 7 {
		slot := (3*step + 2) % 8
		for impl.GroupSlot(spans, slot) < 0 {
			slot = (slot + 1) % 8
		}
		i, code := impl.GroupSlot(spans, slot), 0
		want := wiped(k, 1, cellsOfSlot(1, slot))
		k, spans[i], code = impl.FreeSlot(k, spans[i], slot)
		if code != 0 || !sameKernel(k, want) || impl.GroupSlot(spans, slot) != -1 || !impl.GroupOk(spans) {
			t.Errorf("FreeSlot of %d: %v, %v, %d", slot, k, spans, code)
		}
	}
	if impl.GroupBits(spans) != 0 || !slices.Equal(impl.PageText(k.Machine, 0), wiped(k, 1, []int{5}).Machine.Frames.Cells[1]) {
		t.Error("after all frees:", spans, k)
	}
}

// walker takes and frees slots of a span on each of its pages and keeps account of the contents of those in use.
type walker struct {
	kernel impl.Kernel
	spans  []impl.Span
	cells  map[int]int
}

func (w *walker) take(seed int) {
	i := seed / 1024 % len(w.spans)
	s, slot, _, ok := impl.SpanTake(w.spans[i], seed)
	if !ok {
		return
	}
	w.spans[i] = s
	for at := range cellsOf(s.Class) {
		addr := impl.SpanAddr(s, slot) + at
		w.cells[addr] = 1 + (seed/7+at)%999
		w.kernel.Machine, _ = impl.Store(w.kernel.Machine, addr, w.cells[addr])
	}
}

func (w *walker) free(t *testing.T, seed int) {
	t.Helper()
	i, code := seed/1024%len(w.spans), 0
	s, slot := w.spans[i], seed/4096%20-2
	w.kernel, w.spans[i], code = impl.FreeSlot(w.kernel, s, slot)
	if inUse := slot >= 0 && slot < len(slotsIn(s)) && slotsIn(s)[slot] == 'x'; inUse != (code == 0) {
		t.Fatalf("FreeSlot of %d in %v: %d", slot, s, code)
	}
	if code != 0 {
		return
	}
	for _, at := range cellsOfSlot(s.Class, slot) {
		w.cells[16*s.Page+at] = 0
	}
	checkClear(t, w.kernel, s, slot, true)
}

// check checks that each cell has its value: those in use what was stored, all others 0.
func (w *walker) check(t *testing.T) {
	t.Helper()
	for _, s := range w.spans {
		for addr := 16 * s.Page; addr < 16*s.Page+16; addr++ {
			if v, fault := impl.Load(w.kernel.Machine, addr); v != w.cells[addr] || fault != 0 {
				t.Fatalf("the cell at %d is %d with fault %d, want %d", addr, v, fault, w.cells[addr])
			}
		}
	}
}

// A new object finds its slot cleared, and no free changes another object, in a long series of both.
func TestTakesAndFrees(t *testing.T) {
	k, _ := impl.KernelNew(6, 5, []int{1, 4})
	for page := range 5 {
		for mapped := false; !mapped; {
			k, mapped = impl.KMapNew(k, page)
		}
	}
	w := walker{k, []impl.Span{{Page: 3}, {Page: 0, Class: 1}, {Page: 4, Class: 2}, {Page: 1, Class: 3}, {Page: 2, Class: 1}}, map[int]int{}}
	seed := 16
	for range 3000 {
		seed = seedAfter(seed)
		if seed/2048%3 == 0 {
			w.take(seed)
		} else {
			w.free(t, seed)
		}
		w.check(t)
	}
}

// latesFrom are n frees that differ from one another.
func latesFrom(n int) []impl.Late {
	list := []impl.Late{}
	for i := range n {
		list = append(list, lateOf(i%7-1, i/7-2))
	}
	return list
}

func TestLateAdd(t *testing.T) {
	checkAdd(t, nil, lateOf(0, 3), latesOf(0, 3), true)
	checkAdd(t, []impl.Late{}, impl.Late{}, latesOf(0, 0), true)
	checkAdd(t, latesOf(0, 3), lateOf(0, 3), latesOf(0, 3), false)
	checkAdd(t, latesOf(0, 3), lateOf(0, 4), latesOf(0, 3, 0, 4), true)
	checkAdd(t, latesOf(0, 3), lateOf(1, 3), latesOf(0, 3, 1, 3), true)
	checkAdd(t, latesOf(0, 3), lateOf(3, 0), latesOf(0, 3, 3, 0), true)
	checkAdd(t, latesOf(5, 1, 2, 9, 0, 0), lateOf(2, 1), latesOf(5, 1, 2, 9, 0, 0, 2, 1), true)
	checkAdd(t, latesOf(5, 1, 2, 9, 0, 0), lateOf(5, 1), latesOf(5, 1, 2, 9, 0, 0), false)
	checkAdd(t, latesOf(5, 1, 2, 9, 0, 0), lateOf(2, 9), latesOf(5, 1, 2, 9, 0, 0), false)
	checkAdd(t, latesOf(5, 1, 2, 9, 0, 0), lateOf(0, 0), latesOf(5, 1, 2, 9, 0, 0), false)
	checkAdd(t, latesOf(1, 1, 1, 1), lateOf(2, 2), latesOf(1, 1, 1, 1, 2, 2), true)
}

// Each element of a list of any length is found, and another one is added if there is room for it.
func TestLateAddToEachLength(t *testing.T) {
	for _, n := range []int{0, 1, 2, 20, 38, 39, 40, 41, 42, 80, 1000} {
		list := latesFrom(n)
		for _, x := range list {
			checkAdd(t, list, x, list, false)
		}
		for _, x := range latesOf(7, 7, -1, 1000, 1000, -1, math.MinInt, math.MaxInt) {
			if n < 40 {
				checkAdd(t, list, x, append(slices.Clone(list), x), true)
			} else {
				checkAdd(t, list, x, list, false)
			}
		}
	}
}

// Any numbers can be added, also those that no span or slot has; they are told apart exactly.
func TestLateAddOfAnyNumbers(t *testing.T) {
	numbers := append(noIndexes(), 0, 1, 15, 16, 39, 40)
	list, added := []impl.Late{}, false
	for i, index := range numbers {
		x := lateOf(index, numbers[len(numbers)-1-i])
		checkAdd(t, list, x, append(slices.Clone(list), x), true)
		list, added = impl.LateAdd(list, x)
		checkAdd(t, list, x, list, false)
		if !added {
			t.Error("not added:", x)
		}
	}
}

// A list grows to 40 elements, and no list that it was is changed by that.
func TestLateAddUntilTheListIsFull(t *testing.T) {
	lists := [][]impl.Late{nil}
	for i, x := range latesFrom(60) {
		list, ok := impl.LateAdd(lists[i], x)
		if ok != (i < 40) {
			t.Errorf("LateAdd to a list of %d is %v", i, ok)
		}
		lists = append(lists, list)
	}
	for i, list := range lists {
		if !slices.Equal(list, latesFrom(min(i, 40))) {
			t.Errorf("the list of %d is %v", i, list)
		}
	}
}

// In one call: frees that are possible, one that waits, one of a free slot, one on a page that is not mapped, and one of a span that is not there.
func TestLateApply(t *testing.T) {
	const words, used = "w3 . r0 w1", "xx.x"
	spans := []impl.Span{spanOf(2, "x.xx"), spanOf(0, "xx"), spanOf(1, "xxxx"), spanOf(3, "xxx.....")}
	start := func(late ...int) ward { return ward{kernelOf(words, used, 4, 9), spans, latesOf(late...)} }
	left := func(frame int, first int, last int, i int, slots string, late ...int) ward {
		k := kernelOf(words, used, 4, 9)
		for at := first; at <= last; at++ {
			withCell(k.Machine.Frames, frame, at, 0)
		}
		return ward{k, withSpan(spans, i, spanOf(spans[i].Page, slots)), latesOf(late...)}
	}
	checkApply(t, start(), start())
	checkApply(t, start(1, 0), left(3, 0, 7, 1, ".x"))
	checkApply(t, start(1, 1), left(3, 8, 15, 1, "x."))
	checkApply(t, start(3, 2), left(1, 4, 5, 3, "xx......"))
	checkApply(t, start(0, 2), start(0, 2))
	checkApply(t, start(0, 1), start())
	checkApply(t, start(2, 0), start())
	checkApply(t, start(-1, 0), start())
	checkApply(t, start(4, 0), start())
	checkApply(t, start(1, 2), start())
	checkApply(t, start(3, 0, 3, 1, 3, 0), left(1, 0, 3, 3, "..x....."))
	checkApply(t, start(0, 0, 1, 0, 0, 3), left(3, 0, 7, 1, ".x", 0, 0, 0, 3))
	checkApply(t, start(1, 0, 0, 3, 0, 0, 1, 1), left(3, 0, 15, 1, "..", 0, 3, 0, 0))
	checkApply(t, start(2, 0, 0, 3, 0, 1, 4, 3, 0, 3, -1, 0, 3, 2, 0, 0), left(1, 4, 5, 3, "xx......", 0, 3, 0, 3, 0, 0))
	checkApply(t, start(0, 0, 0, 0), start(0, 0, 0, 0))
}

// someWards are kernels and spans, without frees: nothing protected, one page, some pages, and all pages; kernels that are not valid; and no spans.
func someWards() []ward {
	spans := []impl.Span{spanOf(0, "xx.x"), spanOf(2, "x.xx"), spanOf(1, "xxxx"), {Page: 0, Class: 2, Bits: 16}, spanOf(3, "xx"), spanOf(3, "xx"), spanOf(4, "xx")}
	list := []ward{}
	for _, words := range []string{"w3 . w0 w1", "w3 . r0 w1", "r3 . w0 r1", "r3 . r0 r1"} {
		list = append(list, ward{kernel: kernelOf(words, "xx.x", 6, 8), spans: spans})
	}
	return append(list,
		ward{kernel: kernelOf("w1 . r1 w1", "xx.x", 6), spans: spans},
		ward{kernel: kernelOf("w3 . r0 w1", "xx.x", -1), spans: spans},
		ward{kernel: kernelOf("w0 . r0 w0", "x", 100000), spans: spans},
		ward{kernel: kernelOf("w0 . r0 w0", "x", 0), spans: spans},
		ward{kernel: kernelOf("w3 . r0 w1", "xx.x", 6)})
}

// All lists of up to three frees: of slots in use and free ones, protected and not, on pages that are not mapped or not there, and of spans that are not valid, not there, or equal.
func TestLateApplyOfAllLists(t *testing.T) {
	elements := latesOf(0, 0, 0, 2, 0, 4, 1, 0, 1, 3, 1, 1, 2, 1, 3, 0, 4, 1, 5, 1, 6, 0, 7, 0, -1, 0)
	for _, w := range someWards() {
		for length := range 4 {
			for _, order := range ordersOf(length, cellsFrom(0, len(elements)-1)) {
				w.late = nil
				for _, i := range order {
					w.late = append(w.late, elements[i])
				}
				checkApply(t, w, w.applied())
			}
		}
	}
}

// Numbers that are no index of a span or no slot, alone and between others.
func TestLateApplyOfBadNumbers(t *testing.T) {
	for _, w := range someWards() {
		for _, number := range append(noIndexes(), len(w.spans), len(w.spans)+1, 16, 40) {
			for _, late := range [][]impl.Late{
				latesOf(number, 0), latesOf(0, number), latesOf(1, number), latesOf(number, number),
				latesOf(1, 0, number, 0, 0, 0, 1, number, 0, 1, 4, number, 1, 3),
			} {
				w.late = late
				checkApply(t, w, w.applied())
			}
		}
	}
}

// The list of LateApply has no limit, nor has the list of spans.
func TestLateApplyOfLongLists(t *testing.T) {
	for _, w := range someWards() {
		w.spans = slices.Repeat(w.spans, 9)
		for _, n := range []int{39, 40, 41, 42, 100, 300} {
			w.late = nil
			for i := range n {
				w.late = append(w.late, lateOf(i*11%(len(w.spans)+2)-1, i*i%5-1))
			}
			checkApply(t, w, w.applied())
			w.late = slices.Repeat(latesOf(1, 3), n)
			checkApply(t, w, w.applied())
		}
	}
}

// On a kernel that is not valid, nothing is freed and nothing has to wait, also where a page is protected.
func TestLateApplyOfInvalidKernels(t *testing.T) {
	spans := []impl.Span{spanOf(0, "xx.x"), spanOf(2, "x.xx"), spanOf(1, "xxxx"), spanOf(3, "xx")}
	for _, k := range badKernels() {
		checkApply(t, ward{k, spans, nil}, ward{k, spans, nil})
		for i := range 5 {
			checkApply(t, ward{k, spans, latesOf(i, 0, 1, 0, i, 3)}, ward{k, spans, nil})
		}
	}
}

// Spans that are not valid are not freed and not waited for, and stay as they are beside those that are valid.
func TestLateApplyOfInvalidSpans(t *testing.T) {
	k := kernelOf("w3 r0 r0 w1", "xx.x", 6)
	for _, s := range badSpans() {
		spans := []impl.Span{s, spanOf(3, "x.xx"), s, spanOf(1, "xx")}
		late := latesOf(0, 0, 2, 1, 3, 0, 1, 2, 0, 15, 2, -1)
		want := []impl.Span{s, spanOf(3, "x..x"), s, spanOf(1, "xx")}
		checkApply(t, ward{k, spans, late}, ward{wiped(k, 1, cellsFrom(8, 11)), want, latesOf(3, 0)})
	}
}

// Spans on all pages of the largest machine, of which every third is protected.
func TestLateApplyOnEachPage(t *testing.T) {
	w := ward{}
	words, open := "", ""
	for page := range 32 {
		words += "wrw"[page%3:page%3+1] + strconv.Itoa(31-page) + " "
		open += "w" + strconv.Itoa(31-page) + " "
		w.spans = append(w.spans, spanOf(page, noted(slotCount(page%4), 'x')))
	}
	for page := range 32 {
		w.late = append(w.late, lateOf(31-page, page%2), lateOf(page, slotCount(page%4)-1))
	}
	w.kernel = kernelOf(words, noted(32, 'x'), 0)
	left := w.applied()
	checkApply(t, w, left)
	if len(left.late) != 22 {
		t.Error("these frees wait:", left.late)
	}
	checkApply(t, left, left)
	left.kernel.Machine.Table = tableOf(open)
	checkApply(t, left, left.applied())
	if late := left.applied().late; len(late) != 0 {
		t.Error("these frees still wait:", late)
	}
}

// Each cell of a slot counts, and none of those beside it.
func TestSlotClear(t *testing.T) {
	for class := range impl.Classes {
		for _, slots := range []string{noted(slotCount(class), 'x'), noted(slotCount(class), '.')} {
			for slot := range slotCount(class) {
				cells := cellsOfSlot(class, slot)
				full := kernelOf("w3 . r0 w1", "xx.x", 6)
				withCells(full.Machine.Frames, 0, textFrom(1))
				for page, frame := range map[int]int{0: 3, 2: 0, 3: 1} {
					checkClear(t, full, spanOf(page, slots), slot, false)
					k := wiped(full, frame, cells)
					checkClear(t, k, spanOf(page, slots), slot, true)
					for _, at := range cells {
						checkClear(t, written(k, frame, at, 1), spanOf(page, slots), slot, false)
						checkClear(t, written(k, frame, at, 999), spanOf(page, slots), slot, false)
					}
					empty := wiped(full, frame, cellsFrom(0, 15))
					for at := range 16 {
						checkClear(t, written(empty, frame, at, 5), spanOf(page, slots), slot, !slices.Contains(cells, at))
					}
				}
				for _, page := range []int{1, 4, 31} {
					checkClear(t, full, spanOf(page, slots), slot, false)
				}
			}
		}
	}
}

// There is no such slot, whatever the page contains.
func TestSlotClearOfStrangeSlots(t *testing.T) {
	k := wiped(kernelOf("w3 r3 r0 w3", "x..x", 6), 3, cellsFrom(0, 15))
	for _, slots := range someSlots() {
		for _, page := range []int{0, 1, 3} {
			s := spanOf(page, slots)
			for _, slot := range strangeSlots(s.Class) {
				checkClear(t, k, s, slot, false)
			}
			checkClear(t, k, s, len(slots)-1, true)
		}
	}
}

// The cells are those that Load reads: a kernel of too many calls is no obstacle, but a machine that is not valid is.
func TestSlotClearOfInvalidKernels(t *testing.T) {
	for _, k := range badKernels() {
		for _, page := range []int{0, 2, 3} {
			for slot := range 4 {
				clear := true
				for _, at := range cellsOfSlot(2, slot) {
					v, fault := impl.Load(k.Machine, 16*page+at)
					clear = clear && v == 0 && fault == 0
				}
				checkClear(t, k, spanOf(page, "x..x"), slot, clear)
			}
		}
	}
	for _, calls := range badCalls() {
		k := wiped(kernelOf("w3 . r0 w1", "xx.x", calls, -1), 0, cellsFrom(8, 15))
		for slot := range 4 {
			checkClear(t, k, spanOf(2, "xxxx"), slot, slot >= 2)
		}
	}
	empty := wiped(kernelOf("w3 . r0 w1", "xx.x", 6), 0, cellsFrom(0, 15))
	for _, m := range []impl.Machine{{Frames: empty.Machine.Frames, Table: tableOf("w3 w2 r0 w1")}, {Frames: empty.Machine.Frames}, {Table: empty.Machine.Table}} {
		checkClear(t, impl.Kernel{Machine: m}, spanOf(2, "xxxx"), 1, false)
	}
	checkClear(t, empty, spanOf(2, "xxxx"), 1, true)
}

// freeing is a job in the middle of some order, with the spans of both its pages, the frees that have to wait, and those that are not asked for yet. Cells are the cells of all slots in use, by address.
type freeing struct {
	ward
	job   impl.Job
	asked []impl.Late
	cells map[int]int
}

// freeingOf starts the job of a meshing whose plan moves the slots of the second span.
func freeingOf(spans []impl.Span, c course, shared bool, asked []impl.Late) freeing {
	keep, move := cellsIn(slotsIn(spans[0])), cellsIn(slotsIn(spans[1]))
	m := meshing{planOf(spans[0].Page, spans[1].Page, move...), [2][]int{usedText(800, keep), usedText(900, move)}, shared}
	f := freeing{ward{m.kernel(c.after(0), c.refusals(7)), spans, nil}, m.job(c.after(0)), asked, map[int]int{}}
	for _, at := range keep {
		f.cells[16*spans[0].Page+at] = 800 + at
	}
	for _, at := range move {
		f.cells[16*spans[1].Page+at] = 900 + at
	}
	return f
}

// forget takes the cells of a slot that has been freed out of the account.
func (f *freeing) forget(x impl.Late) {
	f.cells = maps.Clone(f.cells)
	for _, at := range cellsOfSlot(f.spans[x.Index].Class, x.Slot) {
		delete(f.cells, 16*f.spans[x.Index].Page+at)
	}
}

// protected reports whether the page that the job moves is protected.
func (f freeing) protected() bool {
	return entryAt(f.kernel.Machine, f.job.Plan.Move).Mode == 1
}

func (f freeing) over() bool {
	return f.job.Phase == 4 || f.job.Phase == 5
}

// ask returns what is left when the next free is asked for: it is performed, or it has to wait because the job protects the page.
func (f freeing) ask(t *testing.T) freeing {
	t.Helper()
	x, code, added := f.asked[0], 0, false
	f.asked = f.asked[1:]
	f.spans = slices.Clone(f.spans)
	f.kernel, f.spans[x.Index], code = impl.FreeSlot(f.kernel, f.spans[x.Index], x.Slot)
	if waits := x.Index == 1 && f.protected(); waits != (code == 2) || !waits && code != 0 || waits && !impl.JobActive(f.job) {
		t.Fatalf("FreeSlot of %v: %d during %v", x, code, f.job)
	}
	if code == 0 {
		f.forget(x)
		checkClear(t, f.kernel, f.spans[x.Index], x.Slot, true)
		return f
	}
	f.late, added = impl.LateAdd(f.late, x)
	if _, again := impl.LateAdd(f.late, x); !added || again {
		t.Fatalf("LateAdd of %v to %v", x, f.late)
	}
	return f
}

// step returns what a step of the job leaves.
func (f freeing) step() freeing {
	f.kernel, f.job = impl.JobStep(f.kernel, f.job)
	return f
}

// apply returns what LateApply leaves: as soon as the page is not protected, everything that had to wait is performed.
func (f freeing) apply(t *testing.T) freeing {
	t.Helper()
	late := f.late
	checkApply(t, f.ward, f.applied())
	f.kernel, f.spans, f.late = impl.LateApply(f.kernel, f.spans, f.late)
	if f.protected() {
		if !slices.Equal(f.late, late) {
			t.Fatalf("of the frees %v, only %v wait", late, f.late)
		}
		return f
	}
	for _, x := range late {
		f.forget(x)
		checkClear(t, f.kernel, f.spans[x.Index], x.Slot, true)
	}
	if len(f.late) != 0 {
		t.Fatalf("the frees %v still wait", f.late)
	}
	return f
}

// check checks that the slots in use are those that are not freed, with their contents, and that all other slots of both spans are clear once the job is over.
func (f freeing) check(t *testing.T) {
	t.Helper()
	for addr, want := range f.cells {
		if v, fault := impl.Load(f.kernel.Machine, addr); v != want || fault != 0 {
			t.Fatalf("the cell at %d is %d with fault %d, want %d: %v", addr, v, fault, want, f)
		}
	}
	inUse := 0
	for _, s := range f.spans {
		inUse += len(impl.SpanCells(s))
		joined := entryAt(f.kernel.Machine, f.spans[0].Page) == entryAt(f.kernel.Machine, f.spans[1].Page)
		for _, slot := range freeIn(slotsIn(s)) {
			if f.over() && !(joined && impl.GroupSlot(f.spans, slot) >= 0) {
				checkClear(t, f.kernel, s, slot, true)
			}
		}
	}
	if inUse != len(f.cells) || !impl.KernelOk(f.kernel) {
		t.Fatalf("%d cells are in use, want %d: %v", inUse, len(f.cells), f)
	}
}

// checkAllOrders goes on with each possible turn: a step of the job, the next free, and those that wait, at the first chance or later. It returns how many had to wait, over all orders.
func (f freeing) checkAllOrders(t *testing.T) int {
	t.Helper()
	f.check(t)
	applied := f.apply(t)
	applied.check(t)
	waited := len(f.late)
	if !f.over() {
		waited += f.step().checkAllOrders(t)
	}
	if !f.protected() && len(f.late) > 0 {
		waited += applied.checkAllOrders(t)
	}
	if len(f.asked) > 0 {
		waited += f.ask(t).checkAllOrders(t)
	}
	return waited
}

// Whatever the order of the steps and the frees, and whatever is refused, each free is performed at once or as soon as the protection ends, and only the slots that are freed lose their contents.
func TestFreesDuringMeshing(t *testing.T) {
	cases := []struct {
		keep, move string
		asked      []impl.Late
	}{
		{"x.xx", ".x..", latesOf(1, 1, 0, 0)},
		{"x..x", ".x..", latesOf(1, 1)},
		{"x.", ".x", latesOf(0, 0, 1, 1)},
		{"x...x.x.x.......", ".x.......x......", latesOf(1, 1, 1, 9)},
		{"x...x.x.x.......", ".x.......x.....x", latesOf(1, 15, 0, 4, 1, 1)},
		{"xx......", "..x.....", latesOf(0, 0, 1, 2, 0, 1)},
		{"....", "....", nil},
	}
	for i, c := range cases {
		spans := []impl.Span{spanOf(1, c.keep), spanOf(2, c.move)}
		for _, course := range courses(len(cellsIn(c.move))) {
			if course.unlocked > 2 || course.unlocked == 2 && i != 1 {
				continue
			}
			for _, shared := range []bool{false, true} {
				waited := freeingOf(spans, course, shared, c.asked).checkAllOrders(t)
				if (waited > 0) != (len(c.asked) > 0 && !course.protect) {
					t.Errorf("%d frees had to wait in %v", waited, course)
				}
			}
		}
	}
}

// After a job is done, a slot of either span is freed on the common frame, and after one that is undone on its own, where the other frame stays as it is.
func TestFreesAfterAJob(t *testing.T) {
	for _, course := range []course{{cells: 8}, {cells: 8, remap: true}, {cells: 8, protect: true}} {
		f := freeingOf([]impl.Span{spanOf(4, "x..x"), spanOf(0, ".xx.")}, course, false, nil)
		f.kernel, f.job = impl.JobRun(f.kernel, f.job, 200)
		for _, x := range latesOf(0, 0, 0, 3, 1, 1, 1, 2) {
			checkFreeByModel(t, f.kernel, f.spans[x.Index], x.Slot)
			k, _, _ := impl.FreeSlot(f.kernel, f.spans[x.Index], x.Slot)
			if joined := entryAt(k.Machine, 0) == entryAt(k.Machine, 4); joined != (f.job.Phase == 4) {
				t.Errorf("the job is %v, and the kernel %v", f.job, k)
			}
			for _, s := range f.spans {
				for slot, letter := range slotsIn(s) {
					if slot == x.Slot || letter == 'x' {
						checkClear(t, k, s, slot, slot == x.Slot)
					}
				}
			}
		}
	}
}

// The refused calls, the cells of the frames and the frees of a call share no memory in its results, even if they do in its arguments.
func TestFreesWhoseSlicesShareMemory(t *testing.T) {
	shared := cellsFrom(0, 15)
	frames := impl.Frames{Cells: [][]int{shared, shared}, Used: []bool{true, true}}
	k := impl.Kernel{Machine: impl.Machine{Frames: frames, Table: tableOf("w0 w1 r1")}, Refuse: shared}
	check := func(got impl.Kernel, frame int, wiped []int) {
		t.Helper()
		want := textFrom(0)
		for _, at := range wiped {
			want[at] = 0
		}
		if !slices.Equal(got.Machine.Frames.Cells[frame], want) || !slices.Equal(got.Machine.Frames.Cells[1-frame], textFrom(0)) {
			t.Error("the cells of the frames are", got.Machine.Frames.Cells)
		}
		if !apart(got.Machine.Frames) {
			t.Error("the frames share memory")
		}
		scribbleMachine(got.Machine)
		if !slices.Equal(got.Refuse, textFrom(0)) {
			t.Error("Refuse shares memory with a frame:", got)
		}
		scribbleList(got.Refuse)
		if !slices.Equal(shared, textFrom(0)) {
			t.Fatal("the shared memory has changed:", shared)
		}
	}
	freed, _, _ := impl.FreeSlot(k, spanOf(1, "xxxx"), 2)
	check(freed, 1, cellsFrom(8, 11))
	waiting, _, _ := impl.FreeSlot(k, spanOf(2, "xxxx"), 2)
	check(waiting, 1, nil)
	applied, _, _ := impl.LateApply(k, []impl.Span{spanOf(0, "xx"), spanOf(2, "xx")}, latesOf(0, 1, 1, 0))
	check(applied, 0, cellsFrom(8, 15))
}
