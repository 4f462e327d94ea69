package tests

import (
	"math"
	"testing"

	"loop.example/g00978/impl"
)

// largestObject is the limit of PagesFor, which has no name in the document.
const largestObject = 1000

// farSizes are numbers far from every size that has a class or pages.
func farSizes() []int {
	return []int{-1, -2, -4, -8, -9, -16, -17, -1000, -1001, -1 << 32, math.MinInt, math.MinInt + 1, math.MinInt + 8, 1024, 65536, 1 << 31, 1<<32 + 1, 1<<32 + 8, 1 << 62, math.MaxInt - 15, math.MaxInt - 14, math.MaxInt - 8, math.MaxInt - 1, math.MaxInt}
}

// noClasses are numbers that name no class.
func noClasses() []int {
	return []int{-1, -2, -3, -4, -64, math.MinInt, math.MinInt + 1, math.MinInt + 3, impl.Classes, impl.Classes + 1, 5, 8, 16, 62, 63, 64, 65, 256, 1 << 32, 1<<32 + 1, math.MaxInt - 1, math.MaxInt}
}

// cellsOf is the number of cells of the objects of a class, by doubling.
func cellsOf(class int) int {
	cells := 1
	for range class {
		cells += cells
	}
	return cells
}

func TestSizesOfPagesAndClasses(t *testing.T) {
	if impl.PageCells != 16 || impl.Classes != 4 || impl.MaxSmall != 8 {
		t.Error("the constants are", impl.PageCells, impl.Classes, impl.MaxSmall)
	}
}

func TestClassOfAndWaste(t *testing.T) {
	cases := []struct{ size, class, waste int }{
		{0, -1, 0},
		{1, 0, 0},
		{2, 1, 0},
		{3, 2, 1}, {4, 2, 0},
		{5, 3, 3}, {6, 3, 2}, {7, 3, 1}, {8, 3, 0},
		{9, -1, 0}, {10, -1, 0}, {15, -1, 0}, {16, -1, 0}, {17, -1, 0}, {1000, -1, 0}, {1001, -1, 0},
	}
	for _, c := range cases {
		if got := impl.ClassOf(c.size); got != c.class {
			t.Errorf("ClassOf(%d) = %d, want %d", c.size, got, c.class)
		}
		if got := impl.Waste(c.size); got != c.waste {
			t.Errorf("Waste(%d) = %d, want %d", c.size, got, c.waste)
		}
	}
}

func TestClassOfAndWasteReject(t *testing.T) {
	for size := impl.MaxSmall + 1; size <= 2000; size++ {
		checkNoClass(t, size)
		checkNoClass(t, -size)
	}
	for _, size := range append(farSizes(), 0, impl.MaxSmall+1) {
		checkNoClass(t, size)
	}
}

func checkNoClass(t *testing.T, size int) {
	t.Helper()
	if got := impl.ClassOf(size); got != -1 {
		t.Errorf("ClassOf(%d) = %d", size, got)
	}
	if got := impl.Waste(size); got != 0 {
		t.Errorf("Waste(%d) = %d", size, got)
	}
}

func TestClassSizeAndSlots(t *testing.T) {
	cases := []struct{ class, size, slots int }{{0, 1, 16}, {1, 2, 8}, {2, 4, 4}, {3, 8, 2}}
	if len(cases) != impl.Classes {
		t.Fatal("there are", impl.Classes, "classes")
	}
	for _, c := range cases {
		if got := impl.ClassSize(c.class); got != c.size {
			t.Errorf("ClassSize(%d) = %d, want %d", c.class, got, c.size)
		}
		if got := impl.SlotsOf(c.class); got != c.slots {
			t.Errorf("SlotsOf(%d) = %d, want %d", c.class, got, c.slots)
		}
	}
}

func TestClassSizeAndSlotsReject(t *testing.T) {
	for _, class := range noClasses() {
		if got := impl.ClassSize(class); got != 0 {
			t.Errorf("ClassSize(%d) = %d", class, got)
		}
		if got := impl.SlotsOf(class); got != 0 {
			t.Errorf("SlotsOf(%d) = %d", class, got)
		}
	}
}

// The largest size of a class belongs to it and wastes nothing; one more belongs to the next class, or to none after the last.
func TestEndsOfTheClasses(t *testing.T) {
	for class := range impl.Classes {
		size := cellsOf(class)
		if got := impl.ClassSize(class); got != size {
			t.Errorf("ClassSize(%d) = %d, want %d", class, got, size)
		}
		if got := impl.ClassOf(size); got != class {
			t.Errorf("ClassOf(%d) = %d, want %d", size, got, class)
		}
		if got := impl.Waste(size); got != 0 {
			t.Errorf("Waste(%d) = %d", size, got)
		}
		next := class + 1
		if next == impl.Classes {
			checkNoClass(t, size+1)
			continue
		}
		if got := impl.ClassOf(size + 1); got != next {
			t.Errorf("ClassOf(%d) = %d, want %d", size+1, got, next)
		}
		if got := impl.Waste(size + 1); got != cellsOf(next)-size-1 {
			t.Errorf("Waste(%d) = %d, want %d", size+1, got, cellsOf(next)-size-1)
		}
	}
}

// Every size up to the largest small one fits into its class and into no smaller one, and less than half of the object is wasted.
func TestEverySizeFitsIntoItsClass(t *testing.T) {
	for size := 1; size <= impl.MaxSmall; size++ {
		class, waste := impl.ClassOf(size), impl.Waste(size)
		cells := impl.ClassSize(class)
		if cells < size || cells != size+waste {
			t.Errorf("size %d: %d cells, of which %d are wasted", size, cells, waste)
		}
		if class > 0 && impl.ClassSize(class-1) >= size {
			t.Errorf("size %d: class %d is not the smallest one", size, class)
		}
		if waste < 0 || waste >= size || 2*waste >= cells {
			t.Errorf("size %d: %d of %d cells are wasted", size, waste, cells)
		}
	}
}

// The objects of a class fill a page, and their number is one for which there are bitmaps.
func TestObjectsFillThePage(t *testing.T) {
	for class := range impl.Classes {
		slots := impl.SlotsOf(class)
		if slots*impl.ClassSize(class) != impl.PageCells {
			t.Errorf("class %d: %d objects of %d cells", class, slots, impl.ClassSize(class))
		}
		if !impl.BitmapOk(slots, 0) {
			t.Errorf("class %d: no bitmap of %d slots", class, slots)
		}
	}
	if impl.ClassSize(impl.Classes-1) != impl.MaxSmall {
		t.Error("the largest class has", impl.ClassSize(impl.Classes-1), "cells")
	}
}

func TestPagesFor(t *testing.T) {
	cases := []struct{ size, want int }{
		{0, 0}, {1, 0}, {7, 0}, {8, 0},
		{9, 1}, {10, 1}, {15, 1}, {16, 1}, {17, 2}, {31, 2}, {32, 2}, {33, 3}, {48, 3}, {49, 4}, {100, 7},
		{255, 16}, {256, 16}, {257, 17}, {992, 62}, {993, 63}, {999, 63}, {1000, 63}, {1001, 0}, {1008, 0}, {1009, 0},
	}
	for _, c := range cases {
		if got := impl.PagesFor(c.size); got != c.want {
			t.Errorf("PagesFor(%d) = %d, want %d", c.size, got, c.want)
		}
	}
}

// The pages hold the object, and one page less does not.
func TestPagesForEachSize(t *testing.T) {
	for size := impl.MaxSmall + 1; size <= largestObject; size++ {
		pages := impl.PagesFor(size)
		if pages*impl.PageCells < size || (pages-1)*impl.PageCells >= size {
			t.Errorf("PagesFor(%d) = %d", size, pages)
		}
	}
}

func TestPagesForRejects(t *testing.T) {
	for size := -2000; size <= impl.MaxSmall; size++ {
		checkNoPages(t, size)
	}
	for size := largestObject + 1; size <= 5000; size++ {
		checkNoPages(t, size)
	}
	for _, size := range farSizes() {
		checkNoPages(t, size)
	}
}

func checkNoPages(t *testing.T, size int) {
	t.Helper()
	if got := impl.PagesFor(size); got != 0 {
		t.Errorf("PagesFor(%d) = %d", size, got)
	}
}

// Each size up to the limit has either a class or pages, and no other number has one of them.
func TestSizesHaveAClassOrPages(t *testing.T) {
	for size := -50; size <= largestObject+50; size++ {
		small, large := impl.ClassOf(size) >= 0, impl.PagesFor(size) > 0
		allowed := size >= 1 && size <= largestObject
		if small && large || (small || large) != allowed {
			t.Errorf("size %d: class %d, %d pages", size, impl.ClassOf(size), impl.PagesFor(size))
		}
	}
}
