package tests

import (
	"fmt"
	"math"
	"slices"
	"strconv"
	"strings"
	"testing"

	"loop.example/g00978/impl"
)

// cacheOf builds a cache by hand from the addresses in its lists, with a slash between two lists.
func cacheOf(text string) impl.Cache {
	c := impl.Cache{}
	for _, part := range strings.Split(text, "/") {
		list := []int{}
		for _, word := range strings.Fields(part) {
			addr, err := strconv.Atoi(word)
			if err != nil {
				panic(err)
			}
			list = append(list, addr)
		}
		c.Lists = append(c.Lists, list)
	}
	return c
}

// withList returns a cache with one list replaced.
func withList(c impl.Cache, class int, list ...int) impl.Cache {
	lists := slices.Clone(c.Lists)
	lists[class] = list
	return impl.Cache{Lists: lists}
}

// onlyList is a cache in which the other lists are empty.
func onlyList(class int, list ...int) impl.Cache {
	return withList(cacheOf("///"), class, list...)
}

// placesFor are all addresses that an object of a class can have, in ascending order.
func placesFor(class int) []int {
	list := []int{}
	for addr := 0; addr < 512; addr += cellsOf(class) {
		list = append(list, addr)
	}
	return list
}

// somePlaces are n addresses that an object of a class can have, in no order; those of different classes differ.
func somePlaces(class int, n int) []int {
	list := []int{}
	for i := range n {
		list = append(list, 128*class+cellsOf(class)*(i*3%16))
	}
	return list
}

// fullCache is a cache with eight addresses in each list.
func fullCache() impl.Cache {
	c := impl.Cache{}
	for class := range 4 {
		c.Lists = append(c.Lists, somePlaces(class, 8))
	}
	return c
}

// allIn are the addresses in all lists, list by list.
func allIn(c impl.Cache) []int {
	return slices.Concat(c.Lists...)
}

func sameCache(a impl.Cache, b impl.Cache) bool {
	return slices.EqualFunc(a.Lists, b.Lists, slices.Equal)
}

// listsAsFrames serves the checks of chapter 5, as the lists of a cache are lists of numbers like the cells of frames.
func listsAsFrames(c impl.Cache) impl.Frames {
	return impl.Frames{Cells: c.Lists}
}

// checkCache makes a call on a cache with spare capacity and checks the cache that it returns, that its lists share no memory with the argument or with one another, and that the argument stays as it was.
func checkCache(t *testing.T, name string, c impl.Cache, want impl.Cache, call func(impl.Cache) impl.Cache) {
	t.Helper()
	checkFrames(t, name, listsAsFrames(c), listsAsFrames(want), func(f impl.Frames) impl.Frames {
		return listsAsFrames(call(impl.Cache{Lists: f.Cells}))
	})
}

// checkLook makes a call that returns no cache.
func checkLook[R comparable](t *testing.T, name string, c impl.Cache, want R, call func(impl.Cache) R) {
	t.Helper()
	argument := spacious(listsAsFrames(c))
	if got := call(impl.Cache{Lists: argument.Cells}); got != want {
		t.Errorf("%s of %v is %v", name, c, got)
	}
	if !untouched(argument, listsAsFrames(c)) {
		t.Errorf("%s of %v has changed it", name, c)
	}
}

func checkCacheOk(t *testing.T, c impl.Cache, want bool) {
	t.Helper()
	checkLook(t, "CacheOk", c, want, impl.CacheOk)
}

func checkCacheCells(t *testing.T, c impl.Cache, want int) {
	t.Helper()
	checkLook(t, "CacheCells", c, want, impl.CacheCells)
}

func checkCacheHas(t *testing.T, c impl.Cache, addr int, want bool) {
	t.Helper()
	checkLook(t, "CacheHas("+strconv.Itoa(addr)+")", c, want, func(c impl.Cache) bool { return impl.CacheHas(c, addr) })
}

func checkCacheTake(t *testing.T, c impl.Cache, class int, want impl.Cache, addr int, taken bool) {
	t.Helper()
	name := fmt.Sprintf("CacheTake(%v, %d)", c, class)
	checkCache(t, name, c, want, func(c impl.Cache) impl.Cache {
		left, got, ok := impl.CacheTake(c, class)
		if got != addr || ok != taken {
			t.Errorf("%s = %d, %v, want %d, %v", name, got, ok, addr, taken)
		}
		return left
	})
}

// checkNoAddress checks that no address is taken and the cache comes back as it is.
func checkNoAddress(t *testing.T, c impl.Cache, class int) {
	t.Helper()
	checkCacheTake(t, c, class, c, -1, false)
}

func checkCachePut(t *testing.T, c impl.Cache, class int, addr int, want impl.Cache, put bool) {
	t.Helper()
	name := fmt.Sprintf("CachePut(%v, %d, %d)", c, class, addr)
	checkCache(t, name, c, want, func(c impl.Cache) impl.Cache {
		filled, ok := impl.CachePut(c, class, addr)
		if ok != put {
			t.Errorf("%s is %v", name, ok)
		}
		return filled
	})
}

// checkNoPut checks that no address is put and the cache comes back as it is.
func checkNoPut(t *testing.T, c impl.Cache, class int, addr int) {
	t.Helper()
	checkCachePut(t, c, class, addr, c, false)
}

// checkSpill writes over the addresses before the cache is checked, so that no result may share memory with another one.
func checkSpill(t *testing.T, c impl.Cache, class int, n int, want impl.Cache, spilled ...int) {
	t.Helper()
	name := fmt.Sprintf("CacheSpill(%v, %d, %d)", c, class, n)
	checkCache(t, name, c, want, func(c impl.Cache) impl.Cache {
		left, got := impl.CacheSpill(c, class, n)
		if !slices.Equal(got, spilled) {
			t.Errorf("%s = %v, want %v", name, got, spilled)
		}
		scribbleList(got)
		return left
	})
}

// checkNoSpill checks that nothing is spilled and the cache comes back as it is.
func checkNoSpill(t *testing.T, c impl.Cache, class int, n int) {
	t.Helper()
	checkSpill(t, c, class, n, c)
}

// manyNumbers are numbers to spill that are greater than any list is long.
func manyNumbers() []int {
	return []int{9, 10, 16, 32, 64, 1000, 1 << 32, math.MaxInt - 1, math.MaxInt}
}

// fewNumbers are numbers to spill that are less than 1.
func fewNumbers() []int {
	return []int{0, -1, -2, -8, -9, -1 << 32, math.MinInt, math.MinInt + 1}
}

func TestMaxCache(t *testing.T) {
	if impl.MaxCache != 8 || impl.Classes != 4 || impl.MaxPages*impl.PageCells != 512 {
		t.Error("the limits are", impl.MaxCache, impl.Classes, impl.MaxPages*impl.PageCells)
	}
}

// A result that is written over, spare capacity included, leaves no trace in the next one.
func TestCacheNew(t *testing.T) {
	for range 2 {
		c := impl.CacheNew()
		if !sameCache(c, cacheOf("///")) || !impl.CacheOk(c) || impl.CacheCells(c) != 0 {
			t.Error("a new cache is", c)
		}
		if !apart(listsAsFrames(c)) {
			t.Error("the lists of a new cache share memory")
		}
		for class := range c.Lists {
			checkNoAddress(t, c, class)
			c.Lists[class] = append(c.Lists[class], 8*class)
		}
		scribble(listsAsFrames(c))
	}
}

// All addresses there are, alone in the list of each class.
func TestCacheOkOfEachAddress(t *testing.T) {
	for class := range 4 {
		places := placesFor(class)
		for addr := -40; addr < 600; addr++ {
			checkCacheOk(t, onlyList(class, addr), slices.Contains(places, addr))
		}
		for _, addr := range noAddresses(32) {
			checkCacheOk(t, onlyList(class, addr), false)
		}
	}
}

// Lists of each length, alone and together; the lists may be nil, but not missing.
func TestCacheOkOfEachLength(t *testing.T) {
	for n := range 12 {
		for class := range 4 {
			checkCacheOk(t, onlyList(class, somePlaces(class, n)...), n <= 8)
			checkCacheOk(t, withList(fullCache(), class, somePlaces(class, n)...), n <= 8)
		}
	}
	for n := range 10 {
		checkCacheOk(t, impl.Cache{Lists: make([][]int, n)}, n == 4)
		checkCacheOk(t, impl.Cache{Lists: slices.Repeat([][]int{{}}, n)}, n == 4)
	}
	checkCacheOk(t, impl.Cache{}, false)
	checkCacheOk(t, fullCache(), true)
}

// An address that occurs at two places of a full cache, whatever its class and its lists.
func TestCacheOkOfRepeatedAddresses(t *testing.T) {
	for i := range 32 {
		for k := range 32 {
			c := fullCache()
			c.Lists[i/8][i%8], c.Lists[k/8][k%8] = 24, 248
			checkCacheOk(t, c, true)
			c.Lists[i/8][i%8] = 248
			checkCacheOk(t, c, i == k)
		}
	}
}

// An address that no object of the class can have, at each place of a full cache.
func TestCacheOkOfStrangeAddresses(t *testing.T) {
	for i := range 32 {
		c := fullCache()
		for _, addr := range strangePlaces(i / 8) {
			c.Lists[i/8][i%8] = addr
			checkCacheOk(t, c, false)
		}
	}
}

// strangePlaces are addresses that no object of a class can have: there are no such cells, or objects of other classes only.
func strangePlaces(class int) []int {
	list := append(noAddresses(32), -cellsOf(class), -512, 512, 512+cellsOf(class))
	for offset := 1; offset < cellsOf(class); offset++ {
		list = append(list, offset, 8+offset, 256-offset, 504+offset)
	}
	return list
}

// badCaches are caches that are not valid, nearly all of them for one reason only.
func badCaches() []impl.Cache {
	full, empty := fullCache(), cacheOf("///")
	list := []impl.Cache{{}, cacheOf(""), cacheOf("/"), cacheOf("//"), cacheOf("0"), cacheOf("0/2"), cacheOf("0/2/4"), cacheOf("////"), cacheOf("0/2/4/8/"), cacheOf("0/2/4/8/16"), cacheOf("///////")}
	for n := range 4 {
		list = append(list, impl.Cache{Lists: full.Lists[:n]})
	}
	list = append(list, impl.Cache{Lists: append(fullCache().Lists, []int{500})}, impl.Cache{Lists: slices.Repeat(empty.Lists, 2)})
	for class := range 4 {
		for _, n := range []int{9, 10, 16} {
			list = append(list, onlyList(class, somePlaces(class, n)...), withList(full, class, somePlaces(class, n)...))
		}
		for _, pair := range [][2]int{{0, 1}, {0, 7}, {3, 4}, {6, 7}} {
			twice := somePlaces(class, 8)
			twice[pair[0]] = twice[pair[1]]
			list = append(list, onlyList(class, twice...), withList(full, class, twice...))
		}
		for _, addr := range strangePlaces(class) {
			list = append(list, onlyList(class, addr), onlyList(class, append(somePlaces(class, 3), addr)...), onlyList(class, append([]int{addr}, somePlaces(class, 7)...)...))
		}
		for other := range 4 {
			if other != class {
				list = append(list, withList(onlyList(class, 8, 40), other, 8), withList(onlyList(class, 8, 40), other, 48, 40), withList(full, class, append(somePlaces(class, 7), full.Lists[other][0])...))
			}
		}
	}
	return list
}

// Nothing is taken from a cache that is not valid, put into it or spilled from it, and it has no cells, but its addresses are found.
func TestInvalidCaches(t *testing.T) {
	for _, c := range badCaches() {
		checkCacheOk(t, c, false)
		checkCacheCells(t, c, 0)
		for class := -1; class <= max(5, len(c.Lists)); class++ {
			checkNoAddress(t, c, class)
			checkNoPut(t, c, class, 480)
			checkNoPut(t, c, class, 0)
			for _, n := range []int{-1, 0, 1, 2, 8, 9, math.MaxInt, math.MinInt} {
				checkNoSpill(t, c, class, n)
			}
		}
		for _, addr := range append(allIn(c), 0, 480, -1, 511, 512) {
			checkCacheHas(t, c, addr, slices.Contains(allIn(c), addr))
		}
	}
}

func TestCachePut(t *testing.T) {
	cases := []struct {
		cache string
		class int
		addr  int
		want  string
	}{
		{"///", 0, 8, "8///"},
		{"///", 1, 8, "/8//"},
		{"///", 2, 8, "//8/"},
		{"///", 3, 8, "///8"},
		{"//8/", 2, 12, "//8 12/"},
		{"//8 12/", 2, 4, "//8 12 4/"},
		{"//8 12 4/", 2, 0, "//8 12 4 0/"},
		{"//8/", 0, 9, "9//8/"},
		{"//8/", 1, 10, "/10/8/"},
		{"//8/", 3, 0, "//8/0"},
		{"5 6 7/2/8/", 3, 504, "5 6 7/2/8/504"},
		{"5 6 7/2/8/", 0, 4, "5 6 7 4/2/8/"},
		{"///", 0, 0, "0///"},
		{"///", 1, 0, "/0//"},
		{"///", 2, 0, "//0/"},
		{"///", 3, 0, "///0"},
		{"///", 0, 511, "511///"},
		{"///", 1, 510, "/510//"},
		{"///", 2, 508, "//508/"},
		{"///", 3, 504, "///504"},
		{"1 2 3 4 5 6 7///", 0, 8, "1 2 3 4 5 6 7 8///"},
		{"/2 4 6 8 10 12 14//", 1, 0, "/2 4 6 8 10 12 14 0//"},
		{"//4 8 12 16 20 24 28/", 2, 500, "//4 8 12 16 20 24 28 500/"},
		{"///56 48 40 32 24 16 8", 3, 0, "///56 48 40 32 24 16 8 0"},
		{"1 2 3 4 5 6 7 8///", 1, 10, "1 2 3 4 5 6 7 8/10//"},
		{"1 2 3 4 5 6 7 8///", 3, 0, "1 2 3 4 5 6 7 8///0"},
	}
	for _, c := range cases {
		checkCachePut(t, cacheOf(c.cache), c.class, c.addr, cacheOf(c.want), true)
	}
}

func TestCachePutRejects(t *testing.T) {
	cases := []struct {
		cache string
		class int
		addr  int
	}{
		{"//8/", 2, 8},
		{"//8/", 0, 8},
		{"//8/", 1, 8},
		{"//8/", 3, 8},
		{"8///", 3, 8},
		{"1 2 3/4/8/16", 0, 2},
		{"1 2 3/4/8/16", 0, 4},
		{"1 2 3/4/8/16", 1, 2},
		{"1 2 3/4/8/16", 2, 16},
		{"///", 1, 1},
		{"///", 1, 511},
		{"///", 2, 1},
		{"///", 2, 2},
		{"///", 2, 510},
		{"///", 2, 511},
		{"///", 3, 4},
		{"///", 3, 12},
		{"///", 3, 508},
		{"///", 3, 511},
		{"///", 0, -1},
		{"///", 1, -1},
		{"///", 1, -2},
		{"///", 2, -4},
		{"///", 3, -1},
		{"///", 3, -8},
		{"///", 0, 512},
		{"///", 1, 512},
		{"///", 2, 512},
		{"///", 3, 512},
		{"///", -1, 8},
		{"///", 4, 16},
		{"///", 4, 0},
		{"1 2 3 4 5 6 7 8///", 0, 9},
		{"1 2 3 4 5 6 7 8///", 0, 8},
		{"/2 4 6 8 10 12 14 16//", 1, 18},
		{"//4 8 12 16 20 24 28 32/", 2, 0},
		{"///56 48 40 32 24 16 8 0", 3, 504},
	}
	for _, c := range cases {
		checkNoPut(t, cacheOf(c.cache), c.class, c.addr)
	}
}

// Each address there is and others, to the empty and to a partly filled cache.
func TestCachePutOfEachAddress(t *testing.T) {
	some := cacheOf("0 17 40 511/2 6 8 510/4 12 508/16 24 504")
	for class := range 4 {
		places := placesFor(class)
		for addr := -40; addr < 600; addr++ {
			if !slices.Contains(places, addr) {
				checkNoPut(t, cacheOf("///"), class, addr)
				checkNoPut(t, some, class, addr)
				continue
			}
			checkCachePut(t, cacheOf("///"), class, addr, onlyList(class, addr), true)
			if slices.Contains(allIn(some), addr) {
				checkNoPut(t, some, class, addr)
			} else {
				checkCachePut(t, some, class, addr, withList(some, class, append(slices.Clone(some.Lists[class]), addr)...), true)
			}
		}
		for _, addr := range strangePlaces(class) {
			checkNoPut(t, some, class, addr)
		}
	}
}

// There is no such class, whether the cache is empty, partly filled or full.
func TestCachesWithoutTheClass(t *testing.T) {
	for _, c := range []impl.Cache{cacheOf("///"), cacheOf("3/8/16/24"), fullCache()} {
		for _, class := range noClasses() {
			checkNoAddress(t, c, class)
			for _, addr := range []int{-1, 0, 480, 504, 512} {
				checkNoPut(t, c, class, addr)
			}
			for _, n := range []int{-1, 0, 1, 8, 9} {
				checkNoSpill(t, c, class, n)
			}
		}
	}
}

func TestCacheTake(t *testing.T) {
	cases := []struct {
		cache string
		class int
		want  string
		addr  int
	}{
		{"7///", 0, "///", 7},
		{"/6//", 1, "///", 6},
		{"//4/", 2, "///", 4},
		{"///8", 3, "///", 8},
		{"///0", 3, "///", 0},
		{"511///", 0, "///", 511},
		{"//8 12/", 2, "//8/", 12},
		{"//12 8/", 2, "//12/", 8},
		{"3 1 2/4/8/16", 0, "3 1/4/8/16", 2},
		{"3 1 2/4/8/16", 1, "3 1 2//8/16", 4},
		{"3 1 2/4/8/16", 2, "3 1 2/4//16", 8},
		{"3 1 2/4/8/16", 3, "3 1 2/4/8/", 16},
		{"8 7 6 5 4 3 2 1///", 0, "8 7 6 5 4 3 2///", 1},
		{"/0 2 4 6 8 10 12 14//", 1, "/0 2 4 6 8 10 12//", 14},
		{"//32 4 28 8 24 12 20 16/", 2, "//32 4 28 8 24 12 20/", 16},
		{"///0 504 8 496 16 488 24 480", 3, "///0 504 8 496 16 488 24", 480},
	}
	for _, c := range cases {
		checkCacheTake(t, cacheOf(c.cache), c.class, cacheOf(c.want), c.addr, true)
	}
	for _, class := range []int{-1, 0, 1, 2, 3, 4} {
		checkNoAddress(t, cacheOf("///"), class)
		checkNoAddress(t, impl.Cache{Lists: make([][]int, 4)}, class)
	}
	checkNoAddress(t, cacheOf("3 1 2//8/16"), 1)
	checkNoAddress(t, cacheOf("3 1 2/4/8/"), 3)
	checkNoAddress(t, cacheOf("3 1 2/4/8/16"), -1)
	checkNoAddress(t, cacheOf("3 1 2/4/8/16"), 4)
}

// The addresses of a full list are taken from the last one to the first, and the other lists stay full.
func TestCacheTakeUntilTheListIsEmpty(t *testing.T) {
	for class := range 4 {
		c, places := fullCache(), somePlaces(class, 8)
		for n := 7; n >= 0; n-- {
			left := withList(fullCache(), class, places[:n]...)
			checkCacheTake(t, c, class, left, places[n], true)
			checkCacheHas(t, left, places[n], false)
			checkCachePut(t, left, class, places[n], c, true)
			c = left
		}
		checkNoAddress(t, c, class)
	}
}

func TestCacheSpill(t *testing.T) {
	cases := []struct {
		cache   string
		class   int
		n       int
		want    string
		spilled string
	}{
		{"//8 12/", 2, 1, "//12/", "8"},
		{"//8 12/", 2, 2, "///", "8 12"},
		{"//8 12/", 2, 3, "///", "8 12"},
		{"//12 8/", 2, 1, "//8/", "12"},
		{"//12 8/", 2, 2, "///", "12 8"},
		{"///8", 3, 1, "///", "8"},
		{"0///", 0, 1, "///", "0"},
		{"5 3 9 1/2/4/8", 0, 1, "3 9 1/2/4/8", "5"},
		{"5 3 9 1/2/4/8", 0, 2, "9 1/2/4/8", "5 3"},
		{"5 3 9 1/2/4/8", 0, 3, "1/2/4/8", "5 3 9"},
		{"5 3 9 1/2/4/8", 0, 4, "/2/4/8", "5 3 9 1"},
		{"5 3 9 1/2/4/8", 0, 5, "/2/4/8", "5 3 9 1"},
		{"5 3 9 1/2/4/8", 1, 1, "5 3 9 1//4/8", "2"},
		{"5 3 9 1/2/4/8", 2, 8, "5 3 9 1/2//8", "4"},
		{"5 3 9 1/2/4/8", 3, 9, "5 3 9 1/2/4/", "8"},
		{"5 3 9 1/2/4/8", 0, 0, "5 3 9 1/2/4/8", ""},
		{"5 3 9 1/2/4/8", 0, -1, "5 3 9 1/2/4/8", ""},
		{"5 3 9 1/2/4/8", -1, 1, "5 3 9 1/2/4/8", ""},
		{"5 3 9 1/2/4/8", 4, 1, "5 3 9 1/2/4/8", ""},
		{"/2/4/8", 0, 1, "/2/4/8", ""},
		{"///", 3, 8, "///", ""},
		{"8 7 6 5 4 3 2 1///", 0, 7, "1///", "8 7 6 5 4 3 2"},
		{"8 7 6 5 4 3 2 1///", 0, 8, "///", "8 7 6 5 4 3 2 1"},
		{"8 7 6 5 4 3 2 1///", 0, 9, "///", "8 7 6 5 4 3 2 1"},
	}
	for _, c := range cases {
		checkSpill(t, cacheOf(c.cache), c.class, c.n, cacheOf(c.want), cacheOf(c.spilled).Lists[0]...)
	}
}

// Any number from lists of each length, beside empty lists and beside full ones.
func TestCacheSpillOfEachNumber(t *testing.T) {
	for class := range 4 {
		for length := range 9 {
			places := somePlaces(class, length)
			for _, c := range []impl.Cache{onlyList(class, places...), withList(fullCache(), class, places...)} {
				for _, n := range fewNumbers() {
					checkNoSpill(t, c, class, n)
				}
				for _, n := range append(cellsFrom(1, 8), manyNumbers()...) {
					oldest := min(n, length)
					checkSpill(t, c, class, n, withList(c, class, places[oldest:]...), places[:oldest]...)
				}
			}
		}
	}
}

// Spilling a few at a time gives all addresses of a list, the oldest ones first.
func TestCacheSpillUntilTheListIsEmpty(t *testing.T) {
	for class := range 4 {
		for n := 1; n <= 9; n++ {
			c, all := fullCache(), []int{}
			for range 8 {
				left, spilled := impl.CacheSpill(c, class, n)
				c, all = left, append(all, spilled...)
			}
			if !slices.Equal(all, somePlaces(class, 8)) || !sameCache(c, withList(fullCache(), class)) {
				t.Errorf("spilling %d at a time gives %v and leaves %v", n, all, c)
			}
		}
	}
}

func TestCacheHas(t *testing.T) {
	c := cacheOf("7 3 0 511/8 2 510/4 508 12/504 16 40")
	for addr := -40; addr < 600; addr++ {
		checkCacheHas(t, c, addr, slices.Contains(allIn(c), addr))
		checkCacheHas(t, cacheOf("///"), addr, false)
		checkCacheHas(t, impl.Cache{}, addr, false)
		checkCacheHas(t, fullCache(), addr, slices.Contains(allIn(fullCache()), addr))
	}
	for _, addr := range noAddresses(32) {
		checkCacheHas(t, c, addr, false)
	}
}

// An address is found at each place of a list of each length, the first one, the last one and between.
func TestCacheHasAtEachPlace(t *testing.T) {
	for class := range 4 {
		for length := 1; length <= 8; length++ {
			c := onlyList(class, somePlaces(class, length)...)
			for i, addr := range somePlaces(class, 9) {
				checkCacheHas(t, c, addr, i < length)
			}
		}
	}
}

// The cells of lists of each length, alone and together.
func TestCacheCells(t *testing.T) {
	checkCacheCells(t, cacheOf("///"), 0)
	checkCacheCells(t, impl.Cache{Lists: make([][]int, 4)}, 0)
	checkCacheCells(t, fullCache(), 120)
	checkCacheCells(t, cacheOf("0 1 2/4 6/8/16"), 19)
	for class := range 4 {
		for n := range 9 {
			checkCacheCells(t, onlyList(class, somePlaces(class, n)...), n*cellsOf(class))
			checkCacheCells(t, withList(fullCache(), class, somePlaces(class, n)...), 120-(8-n)*cellsOf(class))
		}
	}
}

// cacheModel holds the addresses of a cache in the order in which they were put, whatever their class.
type cacheModel []classed

type classed struct {
	class int
	addr  int
}

// cache is the cache with these addresses.
func (m cacheModel) cache() impl.Cache {
	lists := make([][]int, 4)
	for _, x := range m {
		lists[x.class] = append(lists[x.class], x.addr)
	}
	return impl.Cache{Lists: lists}
}

// of are the addresses of a class, the oldest one first.
func (m cacheModel) of(class int) []int {
	list := []int{}
	for _, x := range m {
		if x.class == class {
			list = append(list, x.addr)
		}
	}
	return list
}

func (m cacheModel) has(addr int) bool {
	return slices.ContainsFunc(m, func(x classed) bool { return x.addr == addr })
}

// accepts reports whether an address can be put.
func (m cacheModel) accepts(x classed) bool {
	return x.class >= 0 && x.class <= 3 && slices.Contains(placesFor(x.class), x.addr) && !m.has(x.addr) && len(m.of(x.class)) < 8
}

func (m cacheModel) with(x classed) cacheModel {
	return append(slices.Clone(m), x)
}

func (m cacheModel) without(addrs []int) cacheModel {
	return slices.DeleteFunc(slices.Clone(m), func(x classed) bool { return slices.Contains(addrs, x.addr) })
}

// check checks all calls on the cache, puts with the given addresses only, and that an address that is put is the first one taken.
func (m cacheModel) check(t *testing.T, puts []classed) {
	t.Helper()
	c, cells := m.cache(), 0
	checkCacheOk(t, c, true)
	for _, x := range puts {
		checkCacheHas(t, c, x.addr, m.has(x.addr))
		if !m.accepts(x) {
			checkNoPut(t, c, x.class, x.addr)
			continue
		}
		checkCachePut(t, c, x.class, x.addr, m.with(x).cache(), true)
		checkCacheTake(t, m.with(x).cache(), x.class, c, x.addr, true)
	}
	for class := -1; class <= 4; class++ {
		list := m.of(class)
		if len(list) == 0 {
			checkNoAddress(t, c, class)
		} else {
			last := list[len(list)-1:]
			checkCacheTake(t, c, class, m.without(last).cache(), last[0], true)
			cells += len(list) * cellsOf(class)
		}
		for n := -1; n <= len(list)+1; n++ {
			oldest := list[:min(max(n, 0), len(list))]
			checkSpill(t, c, class, n, m.without(oldest).cache(), oldest...)
		}
	}
	checkCacheCells(t, c, cells)
}

// checkAllPuts goes on with each address that can be put, up to a number of addresses.
func (m cacheModel) checkAllPuts(t *testing.T, puts []classed, most int) {
	t.Helper()
	m.check(t, puts)
	if len(m) == most {
		return
	}
	for _, x := range puts {
		if m.accepts(x) {
			m.with(x).checkAllPuts(t, puts, most)
		}
	}
}

// All caches of up to three addresses of a few, in each order.
func TestSmallCaches(t *testing.T) {
	puts := []classed{{0, 0}, {0, 3}, {0, 8}, {1, 0}, {1, 8}, {1, 10}, {2, 4}, {2, 8}, {3, 0}, {3, 8}, {3, 504}, {1, 3}, {2, 10}, {3, 4}, {0, -1}, {0, 512}, {3, 512}, {-1, 0}, {4, 16}}
	cacheModel{}.checkAllPuts(t, puts, 3)
}

// turn returns what one put, take or spill leaves, which a seed chooses, and checks it.
func (m cacheModel) turn(t *testing.T, c impl.Cache, seed int) (cacheModel, impl.Cache) {
	t.Helper()
	class, number := seed/64%6-1, seed/4096
	switch list := m.of(class); {
	case seed/1024%4 > 1:
		x := classed{class, number%40*4 - 8 + number/64%2}
		if !m.accepts(x) {
			checkNoPut(t, c, x.class, x.addr)
			return m, c
		}
		checkCachePut(t, c, x.class, x.addr, m.with(x).cache(), true)
		c, _ = impl.CachePut(c, x.class, x.addr)
		return m.with(x), c
	case seed/1024%4 == 1 && len(list) > 0:
		last := list[len(list)-1:]
		checkCacheTake(t, c, class, m.without(last).cache(), last[0], true)
		c, _, _ = impl.CacheTake(c, class)
		return m.without(last), c
	default:
		oldest := list[:min(number%5, len(list))]
		checkSpill(t, c, class, number%5, m.without(oldest).cache(), oldest...)
		c, _ = impl.CacheSpill(c, class, number%5)
		return m.without(oldest), c
	}
}

// In a long series of puts, takes and spills, each cache is made from the one before, and none is changed by those made from it.
func TestSeriesOfCaches(t *testing.T) {
	m, c, seed := cacheModel{}, impl.CacheNew(), 17
	models, caches := []cacheModel{m}, []impl.Cache{c}
	fullest := 0
	for range 4000 {
		seed = seedAfter(seed)
		m, c = m.turn(t, c, seed)
		models, caches = append(models, m), append(caches, c)
		checkCacheOk(t, c, true)
		for class := range 4 {
			fullest = max(fullest, len(m.of(class)))
		}
	}
	for i, c := range caches {
		if !sameCache(c, models[i].cache()) {
			t.Fatalf("after %d turns the cache is %v, want %v", i, c, models[i].cache())
		}
	}
	if fullest != 8 {
		t.Error("the longest list has", fullest)
	}
}

// Lists that lie one behind the other in one array, each with the next one as its spare capacity.
func TestCachesWhoseListsShareMemory(t *testing.T) {
	array := []int{1, 3, 2, 6, 4, 12, 8, 16, 24, 480}
	before := slices.Clone(array)
	c := impl.Cache{Lists: [][]int{array[:2], array[2:4], array[4:6], array[6:9]}}
	same := func(got impl.Cache, text string) {
		t.Helper()
		if !sameCache(got, cacheOf(text)) {
			t.Errorf("the cache is %v, want %s", got, text)
		}
		if !apart(listsAsFrames(got)) {
			t.Error("lists of the result share memory:", got)
		}
		scribble(listsAsFrames(got))
		if !slices.Equal(array, before) {
			t.Fatal("the array has changed:", array)
		}
	}
	for class, addr := range []int{7, 14, 20, 496} {
		put, _ := impl.CachePut(c, class, addr)
		texts := []string{"1 3", "2 6", "4 12", "8 16 24"}
		texts[class] += " " + strconv.Itoa(addr)
		same(put, strings.Join(texts, "/"))
		rejected, _ := impl.CachePut(c, class, 8)
		same(rejected, "1 3/2 6/4 12/8 16 24")
	}
	taken, _, _ := impl.CacheTake(c, 0)
	same(taken, "1/2 6/4 12/8 16 24")
	left, spilled := impl.CacheSpill(c, 1, 1)
	scribbleList(spilled)
	same(left, "1 3/6/4 12/8 16 24")
	left, spilled = impl.CacheSpill(c, 3, 3)
	scribbleList(spilled)
	same(left, "1 3/2 6/4 12/")
	kept, _, _ := impl.CacheTake(c, 4)
	same(kept, "1 3/2 6/4 12/8 16 24")
	kept, spilled = impl.CacheSpill(c, 2, 0)
	scribbleList(spilled)
	same(kept, "1 3/2 6/4 12/8 16 24")
	twice := impl.Cache{Lists: [][]int{array, array, array, array}}
	kept, spilled = impl.CacheSpill(twice, 2, 1)
	scribbleList(spilled)
	same(kept, "1 3 2 6 4 12 8 16 24 480/1 3 2 6 4 12 8 16 24 480/1 3 2 6 4 12 8 16 24 480/1 3 2 6 4 12 8 16 24 480")
}

// The other checks hand in copies with spare capacity, which are not nil. Here the lists are nil: all of them, some, or the list of lists.
func TestCachesWithNilLists(t *testing.T) {
	checkNilLists(t, impl.Cache{Lists: make([][]int, 4)}, 0, 0, 1, 2, 3)
	checkNilLists(t, impl.Cache{Lists: [][]int{{5}, nil, {12}, nil}}, 5, 1, 3)
	checkNilLists(t, impl.Cache{Lists: [][]int{nil, {6}, nil, {16}}}, 10, 0, 2)
	for _, c := range []impl.Cache{{}, {Lists: make([][]int, 3)}, {Lists: make([][]int, 5)}} {
		if impl.CacheOk(c) || impl.CacheCells(c) != 0 {
			t.Errorf("%v: CacheOk is %v and CacheCells %d", c, impl.CacheOk(c), impl.CacheCells(c))
		}
		for class := range 5 {
			checkNilList(t, c, class, c, false)
		}
	}
}

// checkNilLists checks the calls on a valid cache whose lists of the given classes are nil.
func checkNilLists(t *testing.T, c impl.Cache, cells int, classes ...int) {
	t.Helper()
	if !impl.CacheOk(c) || impl.CacheCells(c) != cells {
		t.Errorf("%v: CacheOk is %v and CacheCells %d", c, impl.CacheOk(c), impl.CacheCells(c))
	}
	for _, class := range classes {
		checkNilList(t, c, class, withList(c, class, 496), true)
	}
}

// checkNilList checks that nothing is found in a list that is nil or missing, taken from it or spilled from it, and whether an address can be put into it.
func checkNilList(t *testing.T, c impl.Cache, class int, want impl.Cache, valid bool) {
	t.Helper()
	before := impl.Cache{Lists: slices.Clone(c.Lists)}
	if left, addr, ok := impl.CacheTake(c, class); !sameCache(left, before) || addr != -1 || ok {
		t.Errorf("CacheTake(%v, %d) = %v, %d, %v", c, class, left, addr, ok)
	}
	if left, spilled := impl.CacheSpill(c, class, 1); !sameCache(left, before) || len(spilled) != 0 {
		t.Errorf("CacheSpill(%v, %d, 1) = %v, %v", c, class, left, spilled)
	}
	if filled, ok := impl.CachePut(c, class, 496); !sameCache(filled, want) || ok != valid {
		t.Errorf("CachePut(%v, %d, 496) = %v, %v", c, class, filled, ok)
	}
	if impl.CacheHas(c, 0) || !sameCache(c, before) {
		t.Errorf("CacheHas(%v, 0) is %v; the cache was %v", c, impl.CacheHas(c, 0), before)
	}
}
