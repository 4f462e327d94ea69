package tests

import (
	"fmt"
	"math"
	"math/big"
	"slices"
	"testing"

	"loop.example/g00978/impl"
)

// badSeeds are numbers that are no seeds.
func badSeeds() []int {
	return []int{-1, -2, -5, -12345, -impl.MaxSeed, -impl.MaxSeed - 1, math.MinInt, math.MinInt + 1, impl.MaxSeed + 1, impl.MaxSeed + 2, 2*impl.MaxSeed + 1, 2*impl.MaxSeed + 2, 1 << 31, 1 << 32, 1 << 62, math.MaxInt - 1, math.MaxInt}
}

// someSeeds are both ends of the range and seeds from all parts of it.
func someSeeds() []int {
	seeds := []int{0, 1, 2, 3, 5, 1023, 1024, 1025, 12345, 29785766, impl.MaxSeed / 2, impl.MaxSeed/2 + 1, impl.MaxSeed - 1024, impl.MaxSeed - 1, impl.MaxSeed}
	for s := 7; s <= impl.MaxSeed; s += 9999991 {
		seeds = append(seeds, s)
	}
	return seeds
}

// seedAfter is NextSeed of a seed in the range, in numbers of any size.
func seedAfter(seed int) int {
	n := big.NewInt(1103515245)
	n.Mul(n, big.NewInt(int64(seed)))
	n.Add(n, big.NewInt(12345))
	n.Mod(n, big.NewInt(1<<30))
	return int(n.Int64())
}

func TestMaxSeed(t *testing.T) {
	if impl.MaxSeed != 1<<30-1 {
		t.Error("MaxSeed is", impl.MaxSeed)
	}
}

func TestNextSeed(t *testing.T) {
	cases := []struct{ seed, want int }{
		{0, 12345}, {1, 29785766}, {2, 59559187}, {5, 148879450}, {12345, 333190782}, {29785766, 377401575},
		{1000000, 707716473}, {536870912, 536883257}, {1073741822, 1014207327}, {1073741823, 1043980748},
	}
	for _, c := range cases {
		if got := impl.NextSeed(c.seed); got != c.want {
			t.Errorf("NextSeed(%d) = %d, want %d", c.seed, got, c.want)
		}
	}
}

func TestNextSeedOfManySeeds(t *testing.T) {
	for from := range 3000 {
		for _, seed := range []int{from, impl.MaxSeed - from, from * 357913} {
			if got := impl.NextSeed(seed); got != seedAfter(seed) {
				t.Fatalf("NextSeed(%d) = %d, want %d", seed, got, seedAfter(seed))
			}
		}
	}
}

func TestNextSeedRejects(t *testing.T) {
	for _, seed := range badSeeds() {
		if got := impl.NextSeed(seed); got != 0 {
			t.Errorf("NextSeed(%d) = %d", seed, got)
		}
	}
}

func TestChoose(t *testing.T) {
	cases := []struct{ seed, n, want, next int }{
		{0, 1, 0, 12345}, {0, 2, 0, 12345}, {0, 7, 5, 12345}, {0, 16, 12, 12345}, {0, 1000, 12, 12345},
		{1, 1, 0, 29785766}, {1, 2, 1, 29785766}, {1, 7, 2, 29785766}, {1, 999, 116, 29785766}, {1, 1000, 87, 29785766},
		{5, 3, 1, 148879450}, {5, 16, 14, 148879450}, {5, 1000, 390, 148879450},
		{12345, 16, 5, 333190782}, {12345, 999, 706, 333190782}, {12345, 1000, 381, 333190782},
		{1073741823, 1, 0, 1043980748}, {1073741823, 7, 4, 1043980748}, {1073741823, 1000, 512, 1043980748},
	}
	for _, c := range cases {
		if got, next := impl.Choose(c.seed, c.n); got != c.want || next != c.next {
			t.Errorf("Choose(%d, %d) = %d, %d, want %d, %d", c.seed, c.n, got, next, c.want, c.next)
		}
	}
}

// For each n, a choice is the remainder of the next seed without its low bits.
func TestChooseOfEachNumber(t *testing.T) {
	for _, seed := range someSeeds() {
		for n := 1; n <= 1000; n++ {
			s := seedAfter(seed)
			if got, next := impl.Choose(seed, n); got != (s>>10)%n || next != s {
				t.Fatalf("Choose(%d, %d) = %d, %d, want %d, %d", seed, n, got, next, (s>>10)%n, s)
			}
		}
	}
}

// A rejected choice is 0, and the seed stays what it was, whether it is in the range or not.
func TestChooseRejects(t *testing.T) {
	badNumbers := []int{0, -1, -2, -1000, math.MinInt, math.MinInt + 1, 1001, 1002, 1024, 1 << 32, 1<<32 + 1, math.MaxInt}
	for _, n := range badNumbers {
		for _, seed := range append(badSeeds(), someSeeds()...) {
			if got, next := impl.Choose(seed, n); got != 0 || next != seed {
				t.Errorf("Choose(%d, %d) = %d, %d", seed, n, got, next)
			}
		}
	}
	for _, seed := range badSeeds() {
		for _, n := range []int{1, 2, 7, 64, 999, 1000} {
			if got, next := impl.Choose(seed, n); got != 0 || next != seed {
				t.Errorf("Choose(%d, %d) = %d, %d", seed, n, got, next)
			}
		}
	}
}

func TestShuffled(t *testing.T) {
	cases := []struct {
		seed, n int
		want    []int
		next    int
	}{
		{0, 2, []int{1, 0}, 12345},
		{0, 3, []int{2, 1, 0}, 333190782},
		{0, 5, []int{0, 4, 3, 1, 2}, 375725100},
		{0, 8, []int{2, 6, 3, 5, 7, 1, 0, 4}, 1051550459},
		{1, 2, []int{0, 1}, 29785766},
		{1, 3, []int{1, 0, 2}, 377401575},
		{1, 4, []int{2, 1, 0, 3}, 662824084},
		{1, 8, []int{0, 4, 1, 5, 2, 3, 6, 7}, 434288128},
		{5, 3, []int{2, 0, 1}, 554244747},
		{5, 8, []int{5, 2, 3, 7, 4, 1, 0, 6}, 112722452},
		{12345, 5, []int{0, 2, 3, 4, 1}, 229283573},
		{12345, 16, []int{11, 8, 3, 0, 4, 14, 2, 15, 6, 9, 12, 13, 10, 7, 1, 5}, 622029104},
		{1073741823, 4, []int{1, 2, 3, 0}, 646343466},
		{1073741823, 8, []int{4, 1, 6, 3, 5, 7, 2, 0}, 595070966},
		{1073741823, 16, []int{2, 14, 15, 10, 9, 5, 0, 7, 6, 3, 13, 11, 1, 4, 12, 8}, 652027854},
	}
	for _, c := range cases {
		if got, next := impl.Shuffled(c.seed, c.n); !slices.Equal(got, c.want) || next != c.next {
			t.Errorf("Shuffled(%d, %d) = %v, %d, want %v, %d", c.seed, c.n, got, next, c.want, c.next)
		}
	}
}

// At the limit the shuffle has 64 numbers and makes 63 choices.
func TestShuffledAtTheLimit(t *testing.T) {
	want := []int{
		40, 45, 30, 7, 50, 35, 51, 36, 48, 43, 60, 29, 6, 17, 11, 58, 28, 63, 3, 52, 32, 16, 18, 34, 19, 47, 23, 33, 1, 57, 56, 53,
		26, 41, 22, 31, 59, 0, 20, 44, 37, 24, 15, 13, 61, 55, 25, 38, 46, 5, 10, 54, 2, 42, 39, 27, 9, 14, 8, 62, 4, 21, 49, 12,
	}
	if got, next := impl.Shuffled(0, 64); !slices.Equal(got, want) || next != 184094275 {
		t.Errorf("Shuffled(0, 64) = %v, %d", got, next)
	}
}

// With no number or one there is nothing to choose, and the seed is not used up.
func TestShuffledWithoutChoices(t *testing.T) {
	for _, seed := range someSeeds() {
		if got, next := impl.Shuffled(seed, 0); len(got) != 0 || next != seed {
			t.Errorf("Shuffled(%d, 0) = %v, %d", seed, got, next)
		}
		if got, next := impl.Shuffled(seed, 1); !slices.Equal(got, []int{0}) || next != seed {
			t.Errorf("Shuffled(%d, 1) = %v, %d", seed, got, next)
		}
	}
}

// unshuffle undoes the exchanges of a shuffle, from the lowest index up, and returns what they began with and the seed after them.
func unshuffle(order []int, seed int) ([]int, int) {
	start := slices.Clone(order)
	chosen := make([]int, len(start))
	for i := len(start) - 1; i >= 1; i-- {
		seed = seedAfter(seed)
		chosen[i] = (seed >> 10) % (i + 1)
	}
	for i := 1; i < len(start); i++ {
		start[i], start[chosen[i]] = start[chosen[i]], start[i]
	}
	return start, seed
}

// Of each length, a shuffle is a permutation, and its exchanges lead back to the ascending order.
func TestShuffledOfEachLength(t *testing.T) {
	for _, seed := range someSeeds() {
		ascending := []int{}
		for n := range 65 {
			got, next := impl.Shuffled(seed, n)
			sorted := slices.Clone(got)
			slices.Sort(sorted)
			if !slices.Equal(sorted, ascending) {
				t.Fatalf("Shuffled(%d, %d) = %v is no permutation", seed, n, got)
			}
			if start, last := unshuffle(got, seed); !slices.Equal(start, ascending) || next != last {
				t.Fatalf("Shuffled(%d, %d) = %v, %d: the exchanges began with %v and ended with the seed %d", seed, n, got, next, start, last)
			}
			ascending = append(ascending, n)
		}
	}
}

// A rejected shuffle is empty, and the seed stays what it was, whether it is in the range or not.
func TestShuffledRejects(t *testing.T) {
	for _, n := range []int{-1, -2, -64, math.MinInt, math.MinInt + 1, 65, 66, 128, 1000, 1001, 1 << 32, math.MaxInt} {
		for _, seed := range append(badSeeds(), someSeeds()...) {
			if got, next := impl.Shuffled(seed, n); len(got) != 0 || next != seed {
				t.Errorf("Shuffled(%d, %d) = %v, %d", seed, n, got, next)
			}
		}
	}
	for _, seed := range badSeeds() {
		for _, n := range []int{0, 1, 2, 5, 63, 64} {
			if got, next := impl.Shuffled(seed, n); len(got) != 0 || next != seed {
				t.Errorf("Shuffled(%d, %d) = %v, %d", seed, n, got, next)
			}
		}
	}
}

// Each order of four numbers is the shuffle of some seed, the ascending order too.
func TestShuffledReachesAllOrders(t *testing.T) {
	orders := map[string]bool{}
	seed := 0
	for range 2000 {
		order, next := impl.Shuffled(seed, 4)
		orders[fmt.Sprint(order)] = true
		seed = next
	}
	if len(orders) != 24 || !orders["[0 1 2 3]"] {
		t.Errorf("%d orders of four numbers", len(orders))
	}
}

// A shuffle depends on its seed only: neither on the calls before it nor on what became of an earlier result.
func TestShuffledDependsOnTheSeedOnly(t *testing.T) {
	for _, seed := range someSeeds() {
		first, next := impl.Shuffled(seed, 16)
		want := slices.Clone(first)
		for i := range first {
			first[i] = -1
		}
		impl.Shuffled(next, 64)
		impl.Shuffled(-1, 16)
		impl.Choose(seed, 7)
		if again, same := impl.Shuffled(seed, 16); !slices.Equal(again, want) || same != next {
			t.Errorf("Shuffled(%d, 16) = %v, %d, then %v, %d", seed, want, next, again, same)
		}
	}
}
