package tests

import (
	"math"
	"slices"
	"strings"
	"testing"

	"loop.example/g00978/impl"
)

// planOf builds a plan of any numbers, valid or not.
func planOf(keep int, move int, cells ...int) impl.Plan {
	return impl.Plan{Keep: keep, Move: move, Cells: cells}
}

// cellsFrom are the numbers from first to last, in ascending order.
func cellsFrom(first int, last int) []int {
	cells := []int{}
	for at := first; at <= last; at++ {
		cells = append(cells, at)
	}
	return cells
}

// cellsOfBits are the numbers of the bits that are set in a bitmap of 16 cells, in ascending order.
func cellsOfBits(bits int) []int {
	cells := []int{}
	for at := range 16 {
		if bitOf(bits, at) {
			cells = append(cells, at)
		}
	}
	return cells
}

// textFrom is a text of a page whose cell k is first plus k.
func textFrom(first int) []int {
	return cellsFrom(first, first+15)
}

func samePlan(p impl.Plan, q impl.Plan) bool {
	return p.Keep == q.Keep && p.Move == q.Move && slices.Equal(p.Cells, q.Cells)
}

// roomyPlan returns a plan that equals p and has numbers that are no cells in the spare capacity behind it.
func roomyPlan(p impl.Plan) impl.Plan {
	return impl.Plan{Keep: p.Keep, Move: p.Move, Cells: roomyList(p.Cells)}
}

func untouchedPlan(roomy impl.Plan, p impl.Plan) bool {
	return roomy.Keep == p.Keep && roomy.Move == p.Move && untouchedList(roomy.Cells, p.Cells)
}

// checkPlan checks a plan, that it shares no memory with that of another call, and that one whose cells are written over, up to their capacity, leaves no trace.
func checkPlan(t *testing.T, a impl.Span, b impl.Span, want impl.Plan, planned bool) {
	t.Helper()
	first, ok := impl.PlanPair(a, b)
	if !samePlan(first, want) || ok != planned {
		t.Errorf("PlanPair(%v, %v) = %v, %v, want %v, %v", a, b, first, ok, want, planned)
	}
	second, _ := impl.PlanPair(a, b)
	scribbleList(first.Cells)
	third, _ := impl.PlanPair(a, b)
	if !samePlan(second, want) || !samePlan(third, want) {
		t.Errorf("PlanPair(%v, %v): the plans of two calls share memory", a, b)
	}
}

// checkNoPlan checks that there is no plan for two spans in either order.
func checkNoPlan(t *testing.T, a impl.Span, b impl.Span) {
	t.Helper()
	checkPlan(t, a, b, impl.Plan{}, false)
	checkPlan(t, b, a, impl.Plan{}, false)
}

// checkBothOrders checks the plans for a pair of spans that fit, of which the model tells the one to be moved.
func checkBothOrders(t *testing.T, a impl.Span, b impl.Span, aSlots string, bSlots string) {
	t.Helper()
	fewer := strings.Count(bSlots, "x") - strings.Count(aSlots, "x")
	moveA, moveB := planOf(b.Page, a.Page, cellsIn(aSlots)...), planOf(a.Page, b.Page, cellsIn(bSlots)...)
	switch {
	case fewer > 0:
		checkPlan(t, a, b, moveA, true)
		checkPlan(t, b, a, moveA, true)
	case fewer < 0:
		checkPlan(t, a, b, moveB, true)
		checkPlan(t, b, a, moveB, true)
	default:
		checkPlan(t, a, b, moveB, true)
		checkPlan(t, b, a, moveA, true)
	}
}

func checkPlanOk(t *testing.T, p impl.Plan, want bool) {
	t.Helper()
	argument := roomyPlan(p)
	if got := impl.PlanOk(argument); got != want {
		t.Errorf("PlanOk(%v) is %v", p, got)
	}
	if !untouchedPlan(argument, p) {
		t.Errorf("PlanOk has changed %v", p)
	}
}

func checkSaves(t *testing.T, p impl.Plan, want int) {
	t.Helper()
	argument := roomyPlan(p)
	if got := impl.PlanSaves(argument); got != want {
		t.Errorf("PlanSaves(%v) = %d, want %d", p, got, want)
	}
	if !untouchedPlan(argument, p) {
		t.Errorf("PlanSaves has changed %v", p)
	}
}

// checkMerged checks a merged text, that the arguments and the spare capacity behind them stay as they were, and that the text shares no memory with them or with that of another call.
func checkMerged(t *testing.T, keep []int, move []int, p impl.Plan, want []int) {
	t.Helper()
	roomyKeep, roomyMove, argument := roomyList(keep), roomyList(move), roomyPlan(p)
	untouched := func() bool {
		return untouchedList(roomyKeep, keep) && untouchedList(roomyMove, move) && untouchedPlan(argument, p)
	}
	first := impl.MergedText(roomyKeep, roomyMove, argument)
	if !slices.Equal(first, want) {
		t.Errorf("MergedText(%v, %v, %v) = %v, want %v", keep, move, p, first, want)
	}
	if !untouched() {
		t.Errorf("MergedText has changed one of %v, %v, %v", keep, move, p)
	}
	second := impl.MergedText(roomyKeep, roomyMove, argument)
	scribbleList(first)
	if !untouched() {
		t.Errorf("MergedText(%v, %v, %v) shares memory with an argument", keep, move, p)
	}
	if !slices.Equal(second, want) {
		t.Errorf("MergedText(%v, %v, %v): the texts of two calls share memory", keep, move, p)
	}
}

// checkNoText checks that there is no merged text.
func checkNoText(t *testing.T, keep []int, move []int, p impl.Plan) {
	t.Helper()
	checkMerged(t, keep, move, p, nil)
}

// checkBadPlan checks that all functions reject a plan.
func checkBadPlan(t *testing.T, p impl.Plan) {
	t.Helper()
	checkPlanOk(t, p, false)
	checkSaves(t, p, 0)
	checkNoText(t, textFrom(100), textFrom(200), p)
}

// somePlanPages are pairs of different pages, with both ends of the range in both places.
func somePlanPages() [][2]int {
	return [][2]int{{0, 1}, {1, 0}, {0, 31}, {31, 0}, {30, 31}, {31, 30}, {0, 16}, {16, 31}, {7, 5}}
}

// someCells are lists of cells of plans, with both ends of the page.
func someCells() [][]int {
	return [][]int{nil, {}, {0}, {1}, {7}, {14}, {15}, {0, 15}, {0, 1}, {14, 15}, {12, 13, 14, 15}, {0, 1, 2, 3}, {0, 2, 4, 6, 8, 10, 12, 14}, {1, 3, 5, 7, 9, 11, 13, 15}, cellsFrom(1, 15), cellsFrom(0, 14), cellsFrom(1, 14), cellsFrom(0, 15)}
}

// badCells are lists that are no cells of a plan, nearly all of them for one reason only.
func badCells() [][]int {
	list := [][]int{{-1}, {16}, {-1, 0}, {15, 16}, {-1, 15}, {0, 16}, {-1, 16}, {0, 0}, {15, 15}, {1, 0}, {15, 14}, {15, 0}, {0, 15, 0}, {0, 0, 15}, {0, 15, 15}, {0, 5, 5, 9}, {4, 6, 5, 7}, {-1, -1}, {16, 16}, {16, 17}, {-2, -1}, {-1, 1, 16}}
	list = append(list, cellsFrom(-1, 15), cellsFrom(0, 16), cellsFrom(-1, 14), cellsFrom(1, 16), cellsFrom(-1, 16), cellsFrom(16, 31), cellsFrom(-16, -1), append(cellsFrom(0, 15), 0), append(cellsFrom(0, 15), 15), append([]int{0}, cellsFrom(0, 15)...), slices.Repeat(cellsFrom(0, 15), 500), slices.Repeat([]int{3}, 16), slices.Repeat([]int{0}, 2000))
	for _, at := range noIndexes() {
		list = append(list, []int{at}, []int{0, at}, []int{at, 15}, []int{3, at, 9})
	}
	for _, cells := range someCells() {
		if len(cells) > 1 {
			descending := slices.Clone(cells)
			slices.Reverse(descending)
			list = append(list, descending)
		}
	}
	return list
}

// badPlanPages are pairs of pages that no plan has, nearly all of them for one reason only.
func badPlanPages() [][2]int {
	list := [][2]int{{-1, -1}, {-1, -2}, {32, 32}, {32, 33}, {-1, 32}, {32, -1}, {math.MinInt, math.MaxInt}, {math.MaxInt, math.MinInt}}
	for page := range 32 {
		list = append(list, [2]int{page, page}, [2]int{-1, page}, [2]int{page, -1}, [2]int{32, page}, [2]int{page, 32})
	}
	for _, bad := range noPages(32) {
		for _, page := range []int{0, 1, 15, 31} {
			list = append(list, [2]int{bad, page}, [2]int{page, bad})
		}
	}
	return list
}

func TestPlanPair(t *testing.T) {
	cases := []struct {
		a, b  string
		moveA bool
		cells []int
	}{
		{"xxx.", "...x", false, []int{12, 13, 14, 15}},
		{"...x", "xxx.", true, []int{12, 13, 14, 15}},
		{"x.", ".x", false, []int{8, 9, 10, 11, 12, 13, 14, 15}},
		{".x", "x.", false, []int{0, 1, 2, 3, 4, 5, 6, 7}},
		{"x.x.", ".x.x", false, []int{4, 5, 6, 7, 12, 13, 14, 15}},
		{".x.x", "x.x.", false, []int{0, 1, 2, 3, 8, 9, 10, 11}},
		{"x...", ".x.x", true, []int{0, 1, 2, 3}},
		{".x.x", "x...", false, []int{0, 1, 2, 3}},
		{"x.......", ".......x", false, []int{14, 15}},
		{"..x.....", "xx.x.x.x", true, []int{4, 5}},
		{"xx.x.x.x", "..x...x.", false, []int{4, 5, 12, 13}},
		{"..x...x.", "xx.x.x.x", true, []int{4, 5, 12, 13}},
		{"x" + noted(15, '.'), "." + noted(15, 'x'), true, []int{0}},
		{noted(15, '.') + "x", noted(15, 'x') + ".", true, []int{15}},
		{"." + noted(15, 'x'), "x" + noted(15, '.'), false, []int{0}},
		{noted(8, 'x') + noted(8, '.'), noted(8, '.') + noted(8, 'x'), false, []int{8, 9, 10, 11, 12, 13, 14, 15}},
		{noted(8, '.') + noted(7, 'x') + ".", noted(8, 'x') + noted(8, '.'), true, []int{8, 9, 10, 11, 12, 13, 14}},
		{"....", "x..x", true, nil},
		{"x..x", "....", false, nil},
		{"....", "....", false, nil},
		{"xxxx", "....", false, nil},
		{"....", "xxxx", true, nil},
	}
	for _, c := range cases {
		for _, pages := range somePlanPages() {
			want := planOf(pages[0], pages[1], c.cells...)
			if c.moveA {
				want.Keep, want.Move = want.Move, want.Keep
			}
			checkPlan(t, spanOf(pages[0], c.a), spanOf(pages[1], c.b), want, true)
		}
	}
}

// All pairs of spans of the classes that have at most 8 slots: a plan for those that fit, and none for the others.
func TestPlanPairOfAllPairs(t *testing.T) {
	for class := 1; class < impl.Classes; class++ {
		for _, aSlots := range slotTexts(class) {
			for _, bSlots := range slotTexts(class) {
				a, b := spanOf(2, aSlots), spanOf(30, bSlots)
				if fits(aSlots, bSlots) {
					checkBothOrders(t, a, b, aSlots, bSlots)
				} else {
					checkNoPlan(t, a, b)
				}
			}
		}
	}
}

// emptied returns slots with some of the slots in use made free, as seed tells, and the next seed.
func emptied(slots string, seed int) (string, int) {
	for i := range len(slots) {
		seed = seedAfter(seed)
		if seed/1024%2 == 0 {
			slots = withLetter(slots, i, ".")
		}
	}
	return slots, seed
}

// Each span of each class with the one that uses exactly its free slots and with one that uses some of them.
func TestPlanPairWithTheOpposite(t *testing.T) {
	seed := 3
	eachText(func(class int, slots string) {
		a, b := spanOf(31, slots), spanOf(0, opposite(slots))
		checkBothOrders(t, a, b, slots, opposite(slots))
		some, next := emptied(opposite(slots), seed)
		checkBothOrders(t, a, spanOf(9, some), slots, some)
		seed = next
	})
}

// An empty span is moved, without cells, whichever place it has; of two empty ones it is b.
func TestPlanPairOfEmptySpans(t *testing.T) {
	eachText(func(class int, slots string) {
		count := slotCount(class)
		s, empty := spanOf(4, slots), spanOf(3, noted(count, '.'))
		checkPlan(t, s, empty, planOf(4, 3), true)
		if slots != noted(count, '.') {
			checkPlan(t, empty, s, planOf(4, 3), true)
		} else {
			checkPlan(t, empty, s, planOf(3, 4), true)
		}
	})
}

// A full span is kept, whichever place it has; only an empty one fits.
func TestPlanPairOfFullSpans(t *testing.T) {
	for class := range impl.Classes {
		count := slotCount(class)
		full, empty := spanOf(0, noted(count, 'x')), spanOf(31, noted(count, '.'))
		checkPlan(t, full, empty, planOf(0, 31), true)
		checkPlan(t, empty, full, planOf(0, 31), true)
		checkNoPlan(t, full, onPage(full, 1))
		for slot := range count {
			checkNoPlan(t, full, spanOf(31, withLetter(noted(count, '.'), slot, "x")))
			one, rest := withLetter(noted(count, '.'), slot, "x"), withLetter(noted(count, 'x'), slot, ".")
			checkBothOrders(t, spanOf(0, one), spanOf(31, rest), one, rest)
		}
	}
}

// With equally many cells in use, b is moved, in both orders, be its cells before those of a or behind them and its page smaller or greater.
func TestPlanPairOfEqualSize(t *testing.T) {
	for class := range impl.Classes {
		count := slotCount(class)
		for used := range count/2 + 1 {
			low := noted(used, 'x') + noted(count-used, '.')
			high := noted(count-used, '.') + noted(used, 'x')
			for _, pages := range somePlanPages() {
				a, b := spanOf(pages[0], low), spanOf(pages[1], high)
				checkPlan(t, a, b, planOf(pages[0], pages[1], cellsFrom(16-used*cellsOf(class), 15)...), true)
				checkPlan(t, b, a, planOf(pages[1], pages[0], cellsFrom(0, used*cellsOf(class)-1)...), true)
			}
		}
	}
}

// One slot more in one of two spans of equal size decides which one is moved, whichever slot it is.
func TestPlanPairWithOneSlotMore(t *testing.T) {
	for class := range impl.Classes {
		count := slotCount(class)
		even, odd := strings.Repeat("x.", count/2), strings.Repeat(".x", count/2)
		for slot := range count {
			fewerEven, fewerOdd := withLetter(even, slot, "."), withLetter(odd, slot, ".")
			checkBothOrders(t, spanOf(1, fewerEven), spanOf(2, fewerOdd), fewerEven, fewerOdd)
			want := planOf(2, 1, cellsIn(fewerEven)...)
			if fewerOdd != odd {
				want = planOf(1, 2, cellsIn(fewerOdd)...)
			}
			checkPlan(t, spanOf(1, fewerEven), spanOf(2, fewerOdd), want, true)
			checkPlan(t, spanOf(2, fewerOdd), spanOf(1, fewerEven), want, true)
		}
	}
}

func TestPlanPairOnEachPage(t *testing.T) {
	for page := range 32 {
		for other := range 32 {
			a, b := spanOf(page, "xx.."), spanOf(other, "...x")
			if page == other {
				checkNoPlan(t, a, b)
				continue
			}
			checkBothOrders(t, a, b, "xx..", "...x")
			checkBothOrders(t, onPage(a, other), onPage(b, page), "xx..", "...x")
		}
	}
}

// Spans that are not Meshable have no plan, for each reason.
func TestPlanPairOfSpansThatDoNotFit(t *testing.T) {
	for class := range impl.Classes {
		for other := range impl.Classes {
			if class != other {
				for _, bits := range [][2]int{{0, 0}, {1, 2}, {2, 1}, {3, 0}, {0, 1}} {
					checkNoPlan(t, impl.Span{Page: 6, Class: class, Bits: bits[0]}, impl.Span{Page: 7, Class: other, Bits: bits[1]})
				}
			}
		}
		count := slotCount(class)
		even, odd := spanOf(8, strings.Repeat("x.", count/2)), spanOf(8, strings.Repeat(".x", count/2))
		checkNoPlan(t, even, odd)
		checkNoPlan(t, spanOf(8, noted(count, '.')), spanOf(8, noted(count, '.')))
		checkNoPlan(t, spanOf(8, noted(count, '.')), even)
		for slot := range count {
			one := spanOf(9, withLetter(noted(count, '.'), slot, "x"))
			checkNoPlan(t, one, onPage(one, 10))
			checkNoPlan(t, one, spanOf(10, noted(count, 'x')))
		}
	}
}

func TestPlanPairOfInvalidSpans(t *testing.T) {
	for _, bad := range badSpans() {
		for class := range impl.Classes {
			checkNoPlan(t, bad, impl.Span{Page: 7, Class: class})
			checkNoPlan(t, bad, impl.Span{Page: 3, Class: class, Bits: 1})
		}
		checkNoPlan(t, bad, impl.Span{Page: 7, Class: bad.Class})
		checkNoPlan(t, bad, bad)
		checkNoPlan(t, bad, onPage(bad, 12))
		checkNoPlan(t, bad, onPage(bad, bad.Page+1))
	}
}

// usedText is a text of a page whose cells in use are first plus their number and whose other cells are 0.
func usedText(first int, cells []int) []int {
	text := make([]int, 16)
	for _, at := range cells {
		text[at] = first + at
	}
	return text
}

// checkSurvival checks that both contents survive when two spans that fit are merged as their plan says, and that exactly the cells in use of the moved span are copied, whatever is in the others.
func checkSurvival(t *testing.T, a impl.Span, b impl.Span, aSlots string, bSlots string) {
	t.Helper()
	p, ok := impl.PlanPair(a, b)
	keepSlots, moveSlots := aSlots, bSlots
	if p.Move == a.Page {
		keepSlots, moveSlots = bSlots, aSlots
	}
	if !ok || strings.Count(moveSlots, "x") > strings.Count(keepSlots, "x") || !slices.Equal(p.Cells, cellsIn(moveSlots)) {
		t.Fatalf("PlanPair(%v, %v) = %v, %v", a, b, p, ok)
	}
	checkPlanOk(t, p, true)
	checkSaves(t, p, strings.Count(opposite(moveSlots), "x")*16/len(moveSlots))
	merged := usedText(100, cellsIn(keepSlots))
	for _, at := range cellsIn(moveSlots) {
		merged[at] = 200 + at
	}
	checkMerged(t, usedText(100, cellsIn(keepSlots)), usedText(200, cellsIn(moveSlots)), p, merged)
	merged = textFrom(300)
	for _, at := range cellsIn(moveSlots) {
		merged[at] = 400 + at
	}
	checkMerged(t, textFrom(300), textFrom(400), p, merged)
}

func TestContentsSurviveAPlan(t *testing.T) {
	for class := 1; class < impl.Classes; class++ {
		for _, aSlots := range slotTexts(class) {
			for _, bSlots := range slotTexts(class) {
				if fits(aSlots, bSlots) {
					checkSurvival(t, spanOf(20, aSlots), spanOf(10, bSlots), aSlots, bSlots)
				}
			}
		}
	}
	seed := 8
	for _, slots := range slotTexts(0) {
		checkSurvival(t, spanOf(0, slots), spanOf(31, opposite(slots)), slots, opposite(slots))
		some, next := emptied(opposite(slots), seed)
		checkSurvival(t, spanOf(31, some), spanOf(0, slots), some, slots)
		seed = next
	}
}

func TestPlanOk(t *testing.T) {
	for _, pages := range somePlanPages() {
		for _, cells := range someCells() {
			checkPlanOk(t, planOf(pages[0], pages[1], cells...), true)
			if !impl.PlanOk(impl.Plan{Keep: pages[0], Move: pages[1], Cells: cells}) {
				t.Errorf("the plan of %v with %#v is not valid", pages, cells)
			}
		}
	}
	if impl.PlanOk(impl.Plan{}) {
		t.Error("the zero plan is valid, although its pages are equal")
	}
}

// Both pages at and past both ends of the range, with each number of cells.
func TestPlanOkOfPages(t *testing.T) {
	for keep := -3; keep <= 35; keep++ {
		for move := -3; move <= 35; move++ {
			want := keep != move && keep >= 0 && keep < 32 && move >= 0 && move < 32
			for _, cells := range [][]int{nil, {0}, {3, 9}, cellsFrom(0, 15)} {
				checkPlanOk(t, planOf(keep, move, cells...), want)
			}
		}
	}
	for _, pages := range badPlanPages() {
		for _, cells := range someCells() {
			checkBadPlan(t, planOf(pages[0], pages[1], cells...))
		}
	}
}

func TestPlanOkOfBadCells(t *testing.T) {
	for _, cells := range badCells() {
		for _, pages := range [][2]int{{0, 1}, {31, 0}, {5, 30}} {
			checkBadPlan(t, planOf(pages[0], pages[1], cells...))
		}
	}
	for _, cells := range badCells()[:20] {
		checkBadPlan(t, planOf(0, 0, cells...))
		checkBadPlan(t, planOf(-1, 32, cells...))
	}
}

// Every set of cells makes a plan, in ascending order only: not with a cell twice, with two cells exchanged, or with a number outside of the page before or behind them.
func TestPlanOkOfAllSetsOfCells(t *testing.T) {
	for bits := range 1 << 16 {
		cells := cellsOfBits(bits)
		p := planOf(31, 0, cells...)
		checkPlanOk(t, p, true)
		checkSaves(t, p, 16-len(cells))
		i := bits % (len(cells) + 1)
		broken := [][]int{slices.Insert(slices.Clone(cells), i, -1), slices.Insert(slices.Clone(cells), i, 16)}
		if i < len(cells) {
			broken = append(broken, slices.Insert(slices.Clone(cells), i, cells[i]))
		}
		if i+1 < len(cells) {
			exchanged := slices.Clone(cells)
			exchanged[i], exchanged[i+1] = cells[i+1], cells[i]
			broken = append(broken, exchanged)
		}
		for _, other := range broken {
			checkPlanOk(t, planOf(31, 0, other...), false)
			checkSaves(t, planOf(31, 0, other...), 0)
		}
	}
}

// Of all lists of up to three numbers from -1 to 16, those that are sorted, without one twice, and within the page make plans.
func TestPlanOkOfShortLists(t *testing.T) {
	lists := [][]int{{}}
	for range 3 {
		longer := [][]int{}
		for _, list := range lists {
			for at := -1; at <= 16; at++ {
				longer = append(longer, append(slices.Clone(list), at))
			}
		}
		for _, list := range longer {
			sorted := slices.Clone(list)
			slices.Sort(sorted)
			ok := slices.Equal(list, slices.Compact(sorted)) && sorted[0] > -1 && slices.Max(list) < 16
			checkPlanOk(t, planOf(0, 31, list...), ok)
		}
		lists = longer
	}
}

func TestMergedText(t *testing.T) {
	keep, move := textFrom(100), textFrom(200)
	for _, c := range []struct {
		cells []int
		want  []int
	}{
		{nil, keep},
		{[]int{}, keep},
		{cellsFrom(0, 15), move},
		{[]int{0}, append([]int{200}, keep[1:]...)},
		{[]int{15}, append(cellsFrom(100, 114), 215)},
		{[]int{0, 15}, append(append([]int{200}, cellsFrom(101, 114)...), 215)},
		{[]int{12, 13, 14, 15}, append(cellsFrom(100, 111), 212, 213, 214, 215)},
		{cellsFrom(0, 7), append(cellsFrom(200, 207), cellsFrom(108, 115)...)},
		{[]int{1, 4, 9}, []int{100, 201, 102, 103, 204, 105, 106, 107, 108, 209, 110, 111, 112, 113, 114, 115}},
	} {
		for _, pages := range somePlanPages() {
			checkMerged(t, keep, move, planOf(pages[0], pages[1], c.cells...), c.want)
		}
	}
}

// Each set of cells is copied and no other cell.
func TestMergedTextOfAllSetsOfCells(t *testing.T) {
	for bits := range 1 << 16 {
		want := textFrom(500)
		for at := range want {
			if bitOf(bits, at) {
				want[at] = 700 + at
			}
		}
		checkMerged(t, textFrom(500), textFrom(700), planOf(2, 1, cellsOfBits(bits)...), want)
	}
}

// The cells are copied as they are, also those that no frame holds.
func TestMergedTextOfAnyValues(t *testing.T) {
	values := []int{0, -1, 1000, math.MinInt, math.MaxInt, 999, -999, 1 << 32}
	move := slices.Concat(values, values)
	keep := slices.Clone(move)
	slices.Reverse(keep)
	checkMerged(t, keep, move, planOf(0, 1), keep)
	checkMerged(t, keep, move, planOf(0, 1, cellsFrom(0, 15)...), move)
	checkMerged(t, keep, move, planOf(0, 1, cellsFrom(8, 15)...), slices.Concat(keep[:8], move[8:]))
}

// One list may stand for all three: the texts and the cells.
func TestMergedTextOfOneList(t *testing.T) {
	list := roomyList(cellsFrom(0, 15))
	for _, move := range [][]int{list, textFrom(50)} {
		for _, keep := range [][]int{list, textFrom(50)} {
			want := slices.Clone(move)
			got := impl.MergedText(keep, move, impl.Plan{Keep: 3, Move: 4, Cells: list})
			if !slices.Equal(got, want) {
				t.Errorf("MergedText(%v, %v, ..) = %v", keep, move, got)
			}
			scribbleList(got)
			if !untouchedList(list, cellsFrom(0, 15)) {
				t.Fatal("the list has changed")
			}
		}
	}
}

// shortAndLong are lists that do not have the cells of a page.
func shortAndLong() [][]int {
	return [][]int{nil, {}, {5}, cellsFrom(0, 7), cellsFrom(100, 113), cellsFrom(100, 114), cellsFrom(100, 116), cellsFrom(100, 117), cellsFrom(0, 31), make([]int, 4096)}
}

// A text that is nil, too short or too long gives none, in each place, whether the plan copies its cells or not.
func TestMergedTextOfBadTexts(t *testing.T) {
	for _, cells := range someCells() {
		p := planOf(3, 4, cells...)
		for _, bad := range shortAndLong() {
			checkNoText(t, bad, textFrom(200), p)
			checkNoText(t, textFrom(200), bad, p)
			for _, other := range shortAndLong() {
				checkNoText(t, bad, other, p)
			}
		}
	}
	for _, bad := range [][]int{nil, {}} {
		if len(impl.MergedText(bad, textFrom(1), planOf(0, 1))) > 0 || len(impl.MergedText(textFrom(1), bad, planOf(0, 1))) > 0 {
			t.Errorf("the text %#v is merged", bad)
		}
	}
}

func TestMergedTextOfBadPlansAndTexts(t *testing.T) {
	for _, cells := range badCells() {
		for _, bad := range shortAndLong() {
			checkNoText(t, bad, textFrom(200), planOf(3, 4, cells...))
			checkNoText(t, textFrom(200), bad, planOf(3, 4, cells...))
		}
	}
	for _, pages := range badPlanPages() {
		checkNoText(t, nil, nil, planOf(pages[0], pages[1], 0, 1))
		checkNoText(t, textFrom(0), textFrom(0), planOf(pages[0], pages[1]))
	}
}

func TestPlanSaves(t *testing.T) {
	for _, c := range []struct {
		cells []int
		want  int
	}{
		{nil, 16}, {[]int{}, 16}, {[]int{0}, 15}, {[]int{15}, 15}, {[]int{0, 15}, 14}, {[]int{12, 13, 14, 15}, 12}, {cellsFrom(0, 7), 8}, {cellsFrom(8, 15), 8}, {cellsFrom(0, 14), 1}, {cellsFrom(1, 15), 1}, {cellsFrom(0, 15), 0},
	} {
		for _, pages := range somePlanPages() {
			checkSaves(t, planOf(pages[0], pages[1], c.cells...), c.want)
		}
	}
	for _, pages := range badPlanPages() {
		for _, cells := range someCells() {
			checkSaves(t, planOf(pages[0], pages[1], cells...), 0)
		}
	}
}
