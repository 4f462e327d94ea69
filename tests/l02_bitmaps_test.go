package tests

import (
	"math"
	"slices"
	"strings"
	"testing"

	"loop.example/g00978/impl"
)

// powers returns 2^0 to 2^62, each of which an int holds, by doubling.
func powers() []int {
	all := []int{1}
	for len(all) < 63 {
		last := all[len(all)-1]
		all = append(all, last+last)
	}
	return all
}

// bitOf reads bit i of a number that is not negative by division.
func bitOf(b int, i int) bool {
	return b/powers()[i]%2 == 1
}

// noSlots are numbers that name no slot.
func noSlots() []int {
	return []int{-1, -2, -16, -64, math.MinInt, math.MinInt + 1, impl.MaxSlots, impl.MaxSlots + 1, 31, 32, 33, 62, 63, 64, 65, 256, 1 << 32, math.MaxInt}
}

// negatives are numbers that are no sets of slots.
func negatives() []int {
	return []int{-1, -2, -3, -5, -6, -8, -65536, -65537, -1 << 32, math.MinInt, math.MinInt + 1, math.MinInt + 65535}
}

// wide are numbers with bits above MaxSlots-1.
func wide() []int {
	return []int{65536, 65537, 65541, 131071, 131072, 1<<17 | 1<<15, 1 << 32, 1<<32 | 6, 1 << 62, 1<<62 | 32769, math.MaxInt - 1, math.MaxInt, math.MaxInt - 65535}
}

func TestMaxSlots(t *testing.T) {
	if impl.MaxSlots != 16 {
		t.Error("MaxSlots is", impl.MaxSlots)
	}
}

func TestBitmapOk(t *testing.T) {
	for n := 1; n <= impl.MaxSlots; n++ {
		end := powers()[n]
		for _, b := range []int{0, 1, end / 2, end - 1} {
			if !impl.BitmapOk(n, b) {
				t.Errorf("%d is a bitmap of %d slots", b, n)
			}
		}
		for _, b := range []int{end, end + 1, 2*end - 1, 2 * end, end + 65536, 1 << 32, 1 << 62, math.MaxInt} {
			if impl.BitmapOk(n, b) {
				t.Errorf("%d is no bitmap of %d slots", b, n)
			}
		}
		for _, b := range negatives() {
			if impl.BitmapOk(n, b) {
				t.Errorf("%d is no bitmap of %d slots", b, n)
			}
		}
	}
}

func TestBitmapOkOfAllSmallNumbers(t *testing.T) {
	for n := 1; n <= 10; n++ {
		for b := -70; b <= 2100; b++ {
			if got := impl.BitmapOk(n, b); got != (b >= 0 && b < powers()[n]) {
				t.Fatalf("BitmapOk(%d, %d) = %v", n, b, got)
			}
		}
	}
}

func noBitmapSizes() []int {
	return []int{0, -1, -2, -16, -63, -64, math.MinInt, impl.MaxSlots + 1, impl.MaxSlots + 2, 31, 32, 33, 62, 63, 64, 65, 1 << 32, math.MaxInt}
}

// There is no bitmap of fewer than 1 or more than MaxSlots slots, not even the empty one.
func TestBitmapsOfNoSize(t *testing.T) {
	for _, n := range noBitmapSizes() {
		for _, b := range append(append(negatives(), wide()...), 0, 1, 5, 65535) {
			if impl.BitmapOk(n, b) {
				t.Errorf("BitmapOk(%d, %d) is true", n, b)
			}
			if l := impl.FreeSlots(n, b); len(l) != 0 {
				t.Errorf("FreeSlots(%d, %d) = %v", n, b, l)
			}
			if s := impl.FormatBitmap(n, b); s != "" {
				t.Errorf("FormatBitmap(%d, %d) = %q", n, b, s)
			}
		}
	}
}

func TestHasSlot(t *testing.T) {
	cases := []struct {
		b, i int
		want bool
	}{
		{4, 2, true}, {4, 1, false}, {4, 3, false}, {5, 0, true}, {5, 1, false}, {5, 2, true},
		{0, 0, false}, {0, 15, false}, {1, 0, true}, {1, 15, false},
		{32768, 15, true}, {32768, 14, false}, {32767, 15, false}, {65535, 0, true}, {65535, 15, true},
		{65536, 0, false}, {65536, 15, false}, {65536, 16, false}, {65541, 2, true}, {1 << 32, 0, false},
	}
	for _, c := range cases {
		if got := impl.HasSlot(c.b, c.i); got != c.want {
			t.Errorf("HasSlot(%d, %d) = %v", c.b, c.i, got)
		}
	}
}

func TestWithSlot(t *testing.T) {
	cases := []struct{ b, i, want int }{
		{5, 1, 7}, {5, 0, 5}, {5, 2, 5}, {0, 0, 1}, {0, 1, 2}, {0, 15, 32768}, {32767, 15, 65535}, {65535, 15, 65535}, {65534, 0, 65535},
		{65536, 0, 65537}, {65536, 15, 98304}, {1 << 62, 3, 1<<62 + 8}, {math.MaxInt, 5, math.MaxInt}, {math.MaxInt - 1, 0, math.MaxInt},
	}
	for _, c := range cases {
		if got := impl.WithSlot(c.b, c.i); got != c.want {
			t.Errorf("WithSlot(%d, %d) = %d, want %d", c.b, c.i, got, c.want)
		}
	}
}

func TestWithoutSlot(t *testing.T) {
	cases := []struct{ b, i, want int }{
		{7, 1, 5}, {5, 1, 5}, {5, 0, 4}, {1, 0, 0}, {0, 0, 0}, {0, 15, 0}, {32768, 15, 0}, {65535, 15, 32767}, {65535, 0, 65534},
		{65537, 0, 65536}, {65536, 0, 65536}, {98304, 15, 65536}, {1<<62 + 8, 3, 1 << 62}, {math.MaxInt, 0, math.MaxInt - 1},
	}
	for _, c := range cases {
		if got := impl.WithoutSlot(c.b, c.i); got != c.want {
			t.Errorf("WithoutSlot(%d, %d) = %d, want %d", c.b, c.i, got, c.want)
		}
	}
}

// A negative number has no slots, and setting and clearing return it as it is.
func TestSlotsOfNegativeNumbers(t *testing.T) {
	for _, b := range negatives() {
		for _, i := range append(noSlots(), 0, 1, 2, 7, 8, 14, 15) {
			if impl.HasSlot(b, i) {
				t.Errorf("HasSlot(%d, %d) is true", b, i)
			}
			if got := impl.WithSlot(b, i); got != b {
				t.Errorf("WithSlot(%d, %d) = %d", b, i, got)
			}
			if got := impl.WithoutSlot(b, i); got != b {
				t.Errorf("WithoutSlot(%d, %d) = %d", b, i, got)
			}
		}
		if got := impl.CountSlots(b); got != 0 {
			t.Errorf("CountSlots(%d) = %d", b, got)
		}
	}
}

// Bits that are no slots are not in use, and can neither be set nor cleared.
func TestSlotsOutOfRange(t *testing.T) {
	for _, b := range append(wide(), 0, 1, 2, 5, 21845, 32768, 65534, 65535) {
		for _, i := range noSlots() {
			if impl.HasSlot(b, i) {
				t.Errorf("HasSlot(%d, %d) is true", b, i)
			}
			if got := impl.WithSlot(b, i); got != b {
				t.Errorf("WithSlot(%d, %d) = %d", b, i, got)
			}
			if got := impl.WithoutSlot(b, i); got != b {
				t.Errorf("WithoutSlot(%d, %d) = %d", b, i, got)
			}
		}
	}
}

// checkOneSlot checks that setting and clearing slot i of b changes bit i and no other bit of b.
func checkOneSlot(t *testing.T, b int, i int) {
	t.Helper()
	used, mask := bitOf(b, i), powers()[i]
	with, without := b, b
	if used {
		without = b - mask
	} else {
		with = b + mask
	}
	if got := impl.HasSlot(b, i); got != used {
		t.Fatalf("HasSlot(%d, %d) = %v", b, i, got)
	}
	if got := impl.WithSlot(b, i); got != with {
		t.Fatalf("WithSlot(%d, %d) = %d, want %d", b, i, got, with)
	}
	if got := impl.WithoutSlot(b, i); got != without {
		t.Fatalf("WithoutSlot(%d, %d) = %d, want %d", b, i, got, without)
	}
}

// Of each bitmap, every slot is set and cleared alone.
func TestOneSlotChanges(t *testing.T) {
	for b := range powers()[12] {
		for i := range impl.MaxSlots {
			checkOneSlot(t, b, i)
			checkOneSlot(t, 65535-b, i)
			checkOneSlot(t, b*16, i)
		}
	}
	for _, b := range wide() {
		for i := range impl.MaxSlots {
			checkOneSlot(t, b, i)
		}
	}
}

// countAndText returns the number of slots in use and the text of a bitmap of n slots.
func countAndText(n int, b int) (int, string) {
	count, text := 0, ""
	for range n {
		text += ".x"[b%2 : b%2+1]
		count += b % 2
		b /= 2
	}
	return count, text
}

func TestCountSlots(t *testing.T) {
	for b := range 65536 {
		if want, _ := countAndText(impl.MaxSlots, b); impl.CountSlots(b) != want {
			t.Fatalf("CountSlots(%d) = %d, want %d", b, impl.CountSlots(b), want)
		}
	}
}

// Bits above MaxSlots-1 do not count.
func TestCountSlotsOfWideNumbers(t *testing.T) {
	cases := []struct{ b, want int }{
		{65536, 0}, {65537, 1}, {65541, 2}, {131071, 16}, {1<<17 | 1<<15, 1}, {1 << 32, 0}, {1<<32 | 6, 2}, {1 << 62, 0}, {1<<62 | 32769, 2},
		{math.MaxInt, 16}, {math.MaxInt - 1, 15}, {math.MaxInt - 65535, 0},
	}
	for _, c := range cases {
		if got := impl.CountSlots(c.b); got != c.want {
			t.Errorf("CountSlots(%d) = %d, want %d", c.b, got, c.want)
		}
	}
}

func TestFreeSlots(t *testing.T) {
	cases := []struct {
		n, b int
		want []int
	}{
		{4, 5, []int{1, 3}}, {4, 0, []int{0, 1, 2, 3}}, {4, 15, nil}, {4, 7, []int{3}}, {4, 14, []int{0}},
		{1, 0, []int{0}}, {1, 1, nil}, {2, 2, []int{0}},
		{16, 0, []int{0, 1, 2, 3, 4, 5, 6, 7, 8, 9, 10, 11, 12, 13, 14, 15}}, {16, 65535, nil},
		{16, 32767, []int{15}}, {16, 65534, []int{0}}, {15, 32767, nil}, {8, 170, []int{0, 2, 4, 6}},
	}
	for _, c := range cases {
		if got := impl.FreeSlots(c.n, c.b); !slices.Equal(got, c.want) {
			t.Errorf("FreeSlots(%d, %d) = %v, want %v", c.n, c.b, got, c.want)
		}
	}
}

func TestFormatBitmap(t *testing.T) {
	cases := []struct {
		n, b int
		want string
	}{
		{4, 5, "x.x."}, {4, 0, "...."}, {4, 15, "xxxx"}, {4, 8, "...x"}, {4, 1, "x..."},
		{1, 0, "."}, {1, 1, "x"}, {2, 2, ".x"}, {5, 5, "x.x.."},
		{16, 0, strings.Repeat(".", 16)}, {16, 65535, strings.Repeat("x", 16)},
		{16, 32768, strings.Repeat(".", 15) + "x"}, {16, 1, "x" + strings.Repeat(".", 15)},
	}
	for _, c := range cases {
		if got := impl.FormatBitmap(c.n, c.b); got != c.want {
			t.Errorf("FormatBitmap(%d, %d) = %q, want %q", c.n, c.b, got, c.want)
		}
	}
}

// A number with a bit at or above n, or a negative one, is no bitmap of n slots and has neither slots nor a text.
func TestNumbersThatAreNoBitmaps(t *testing.T) {
	for n := 1; n <= impl.MaxSlots; n++ {
		bad := append(negatives(), wide()...)
		for _, p := range powers()[n:] {
			bad = append(bad, p, p+1, p-1+p)
		}
		for _, b := range bad {
			if l := impl.FreeSlots(n, b); len(l) != 0 {
				t.Errorf("FreeSlots(%d, %d) = %v", n, b, l)
			}
			if s := impl.FormatBitmap(n, b); s != "" {
				t.Errorf("FormatBitmap(%d, %d) = %q", n, b, s)
			}
		}
	}
}

// Of all bitmaps of each size, the text shows the slots, and those with a dot are free.
func TestBitmapsOfEachSize(t *testing.T) {
	for n := 1; n <= impl.MaxSlots; n++ {
		for b := range powers()[n] {
			count, text := countAndText(n, b)
			free := []int{}
			for i := range n {
				if text[i] == '.' {
					free = append(free, i)
				}
			}
			if !impl.BitmapOk(n, b) || impl.CountSlots(b) != count || impl.FormatBitmap(n, b) != text || !slices.Equal(impl.FreeSlots(n, b), free) {
				t.Fatalf("the bitmap %d of %d slots has the text %q and the free slots %v", b, n, impl.FormatBitmap(n, b), impl.FreeSlots(n, b))
			}
		}
	}
}

func TestFreeSlotsReturnsNewMemory(t *testing.T) {
	first := impl.FreeSlots(4, 5)
	for i := range first {
		first[i] = 9
	}
	first = append(first, 9)
	if second := impl.FreeSlots(4, 5); len(first) != 3 || !slices.Equal(second, []int{1, 3}) {
		t.Errorf("FreeSlots(4, 5) = %v after a change of an earlier result", second)
	}
}
