package tests

import (
	"math"
	"math/big"
	"testing"

	"loop.example/g00978/impl"
)

// mostCounted and largestTerm are the limits of CountDisjoint and of FractionLess, which have no names in the document.
const (
	mostCounted = 10
	largestTerm = 1000000
)

// fractionOf builds a fraction of any numbers, valid or not.
func fractionOf(num int, den int) impl.Fraction {
	return impl.Fraction{Num: num, Den: den}
}

// ratioOf is the value of a fraction with a Den of at least 1.
func ratioOf(f impl.Fraction) *big.Rat {
	return big.NewRat(int64(f.Num), int64(f.Den))
}

// lowest is Reduced of a fraction with a Num of at least 0 and a Den of at least 1.
func lowest(f impl.Fraction) impl.Fraction {
	r := ratioOf(f)
	return fractionOf(int(r.Num().Int64()), int(r.Denom().Int64()))
}

// subsetCounts returns the numbers of subsets of n elements, by the number of their elements: a further element is in a subset or not.
func subsetCounts(n int) []int {
	counts := []int{1}
	for range n {
		next := make([]int, len(counts)+1)
		for k, count := range counts {
			next[k] += count
			next[k+1] += count
		}
		counts = next
	}
	return counts
}

// usedSlots counts the slots in use of a bitmap by division.
func usedSlots(bitmap int) int {
	count := 0
	for ; bitmap > 0; bitmap /= 2 {
		count += bitmap % 2
	}
	return count
}

// farNumbers are numbers out of every range of this chapter, among them those that a wraparound of 32 bits would let in.
func farNumbers() []int {
	return []int{-1, -2, -16, -17, -64, -largestTerm, -1 << 32, 1 - 1<<32, math.MinInt, math.MinInt + 1, math.MinInt + 10, 1 << 32, 1<<32 + 1, 1<<32 + 10, 1 << 62, math.MaxInt - 1, math.MaxInt}
}

// nearNumbers are numbers of slots from a few below the range to a few above it, and those far from it.
func nearNumbers() []int {
	numbers := append(farNumbers(), 31, 32, 33, 63, 64, 65, 1000)
	for n := range impl.MaxSlots + 5 {
		numbers = append(numbers, n)
	}
	return numbers
}

// haveBitmaps reports whether there are bitmaps of n slots with a and with b slots in use.
func haveBitmaps(n int, a int, b int) bool {
	return n >= 1 && n <= 16 && a >= 0 && a <= n && b >= 0 && b <= n
}

func checkBinomial(t *testing.T, n int, k int, want int) {
	t.Helper()
	if got := impl.Binomial(n, k); got != want {
		t.Errorf("Binomial(%d, %d) = %d, want %d", n, k, got, want)
	}
}

func checkReduced(t *testing.T, f impl.Fraction, want impl.Fraction) {
	t.Helper()
	if got := impl.Reduced(f); got != want {
		t.Errorf("Reduced(%v) = %v, want %v", f, got, want)
	}
}

// checkLowest checks that a fraction is reduced to one of the same value, which stays as it is when it is reduced again.
func checkLowest(t *testing.T, f impl.Fraction) {
	t.Helper()
	got := impl.Reduced(f)
	if got.Num < 0 || got.Den < 1 || ratioOf(got).Cmp(ratioOf(f)) != 0 {
		t.Errorf("Reduced(%v) = %v has another value", f, got)
	}
	checkReduced(t, f, lowest(f))
	checkReduced(t, got, got)
}

func checkChance(t *testing.T, n int, a int, b int, want impl.Fraction) {
	t.Helper()
	if got := impl.MeshChance(n, a, b); got != want {
		t.Errorf("MeshChance(%d, %d, %d) = %v, want %v", n, a, b, got, want)
	}
}

func checkDisjoint(t *testing.T, n int, a int, b int, want int) {
	t.Helper()
	if got := impl.CountDisjoint(n, a, b); got != want {
		t.Errorf("CountDisjoint(%d, %d, %d) = %d, want %d", n, a, b, got, want)
	}
}

// checkNoChance checks that both functions reject the numbers of slots.
func checkNoChance(t *testing.T, n int, a int, b int) {
	t.Helper()
	checkChance(t, n, a, b, fractionOf(0, 0))
	checkDisjoint(t, n, a, b, 0)
}

func checkLess(t *testing.T, f impl.Fraction, g impl.Fraction, want bool) {
	t.Helper()
	if got := impl.FractionLess(f, g); got != want {
		t.Errorf("FractionLess(%v, %v) is %v", f, g, got)
	}
}

// checkOrder checks both orders of two fractions of which the first is less.
func checkOrder(t *testing.T, f impl.Fraction, g impl.Fraction) {
	t.Helper()
	checkLess(t, f, g, true)
	checkLess(t, g, f, false)
}

// checkEqual checks that none of two fractions is less than the other.
func checkEqual(t *testing.T, f impl.Fraction, g impl.Fraction) {
	t.Helper()
	checkLess(t, f, g, false)
	checkLess(t, g, f, false)
}

func TestBinomial(t *testing.T) {
	cases := []struct{ n, k, want int }{
		{0, 0, 1}, {0, 1, 0}, {0, -1, 0},
		{1, 0, 1}, {1, 1, 1}, {1, 2, 0}, {1, -1, 0},
		{4, 0, 1}, {4, 1, 4}, {4, 2, 6}, {4, 3, 4}, {4, 4, 1}, {4, 5, 0}, {4, -1, 0},
		{7, 3, 35}, {10, 5, 252}, {15, 7, 6435}, {15, 8, 6435}, {15, 15, 1},
		{16, 0, 1}, {16, 1, 16}, {16, 2, 120}, {16, 7, 11440}, {16, 8, 12870}, {16, 9, 11440}, {16, 15, 16}, {16, 16, 1}, {16, 17, 0}, {16, -1, 0},
		{17, 0, 0}, {17, 1, 0}, {17, 8, 0}, {17, 16, 0}, {17, 17, 0}, {17, 18, 0}, {17, -1, 0},
		{-1, 0, 0}, {-1, -1, 0}, {-1, 1, 0}, {-1, -2, 0}, {-4, 2, 0},
	}
	for _, c := range cases {
		checkBinomial(t, c.n, c.k, c.want)
	}
}

// All numbers of elements in the range and a few outside, against sums of smaller numbers.
func TestBinomialFollowsTheSums(t *testing.T) {
	for _, n := range nearNumbers() {
		counts := []int{}
		if n >= 0 && n <= impl.MaxSlots {
			counts = subsetCounts(n)
		}
		for _, k := range nearNumbers() {
			want := 0
			if k >= 0 && k < len(counts) {
				want = counts[k]
			}
			checkBinomial(t, n, k, want)
		}
	}
}

// The bitmaps of n slots are the subsets of a set with n elements.
func TestBinomialCountsTheBitmaps(t *testing.T) {
	for n := range impl.MaxSlots + 1 {
		counts := make([]int, n+1)
		for bitmap := range powers()[n] {
			counts[usedSlots(bitmap)]++
		}
		for k, want := range counts {
			checkBinomial(t, n, k, want)
		}
	}
}

func TestReduced(t *testing.T) {
	cases := []struct{ f, want impl.Fraction }{
		// In lowest terms already.
		{fractionOf(1, 1), fractionOf(1, 1)}, {fractionOf(1, 2), fractionOf(1, 2)}, {fractionOf(3, 2), fractionOf(3, 2)},
		{fractionOf(8, 9), fractionOf(8, 9)}, {fractionOf(35, 36), fractionOf(35, 36)}, {fractionOf(5, 1), fractionOf(5, 1)},
		// A common divisor that is a prime.
		{fractionOf(2, 4), fractionOf(1, 2)}, {fractionOf(6, 4), fractionOf(3, 2)}, {fractionOf(9, 15), fractionOf(3, 5)},
		{fractionOf(10, 15), fractionOf(2, 3)}, {fractionOf(14, 7), fractionOf(2, 1)}, {fractionOf(97, 194), fractionOf(1, 2)}, {fractionOf(2*1009, 3*1009), fractionOf(2, 3)},
		// One that is not: a power of a prime, or a product of primes.
		{fractionOf(4, 8), fractionOf(1, 2)}, {fractionOf(27, 18), fractionOf(3, 2)}, {fractionOf(25, 75), fractionOf(1, 3)}, {fractionOf(16, 64), fractionOf(1, 4)},
		{fractionOf(12, 18), fractionOf(2, 3)}, {fractionOf(36, 48), fractionOf(3, 4)}, {fractionOf(60, 90), fractionOf(2, 3)}, {fractionOf(210, 30), fractionOf(7, 1)}, {fractionOf(495, 12870), fractionOf(1, 26)},
		// A Num of 0.
		{fractionOf(0, 1), fractionOf(0, 1)}, {fractionOf(0, 2), fractionOf(0, 1)}, {fractionOf(0, 12), fractionOf(0, 1)}, {fractionOf(0, math.MaxInt), fractionOf(0, 1)},
		// A Num greater than Den, a Den of 1, and equal ones.
		{fractionOf(100, 8), fractionOf(25, 2)}, {fractionOf(12870, 495), fractionOf(26, 1)}, {fractionOf(math.MaxInt, 1), fractionOf(math.MaxInt, 1)},
		{fractionOf(2, 2), fractionOf(1, 1)}, {fractionOf(7, 7), fractionOf(1, 1)}, {fractionOf(12, 12), fractionOf(1, 1)},
	}
	for _, c := range cases {
		checkReduced(t, c.f, c.want)
		checkLowest(t, c.f)
	}
}

func TestReducedOfTheGreatestInts(t *testing.T) {
	const most = math.MaxInt
	cases := []struct{ f, want impl.Fraction }{
		{fractionOf(most, most), fractionOf(1, 1)},
		{fractionOf(most-1, most), fractionOf(most-1, most)},
		{fractionOf(most, most-1), fractionOf(most, most-1)},
		{fractionOf(1, most), fractionOf(1, most)},
		{fractionOf(2, most), fractionOf(2, most)},
		{fractionOf(most-1, 2), fractionOf(most/2, 1)},
		{fractionOf(2, most-1), fractionOf(1, most/2)},
		// The greatest int is 49*73*127*337*92737*649657.
		{fractionOf(most, 49), fractionOf(most/49, 1)},
		{fractionOf(14, most), fractionOf(2, most/7)},
		{fractionOf(most, 92737*649657*6), fractionOf(49*73*127*337, 6)},
		{fractionOf(1<<62, 1<<61), fractionOf(2, 1)},
		{fractionOf(1<<61, 1<<62), fractionOf(1, 2)},
		{fractionOf(3<<61, 1<<62), fractionOf(3, 2)},
		{fractionOf(1<<62, most), fractionOf(1<<62, most)},
		// Two numbers of Fibonacci in a row are those for which the divisor takes the longest to find.
		{fractionOf(4660046610375530309, 7540113804746346429), fractionOf(4660046610375530309, 7540113804746346429)},
		{fractionOf(7540113804746346429, 4660046610375530309), fractionOf(7540113804746346429, 4660046610375530309)},
	}
	for _, c := range cases {
		checkReduced(t, c.f, c.want)
		checkLowest(t, c.f)
	}
}

func TestReducedRejects(t *testing.T) {
	numbers := append(farNumbers(), 0, 1, 2, 3, 4, 6, 12, 1000, largestTerm, largestTerm+1)
	for _, num := range numbers {
		for _, den := range numbers {
			f := fractionOf(num, den)
			if num < 0 || den < 1 {
				checkReduced(t, f, fractionOf(0, 0))
				continue
			}
			checkLowest(t, f)
		}
	}
}

// No number divides both terms of a small fraction after it is reduced, and a multiple of it gives the same terms.
func TestReducedOfSmallNumbers(t *testing.T) {
	for num := range 61 {
		for den := 1; den <= 60; den++ {
			f := fractionOf(num, den)
			checkLowest(t, f)
			got := impl.Reduced(f)
			for divisor := 2; divisor <= 60; divisor++ {
				if got.Num%divisor == 0 && got.Den%divisor == 0 {
					t.Errorf("Reduced(%v) = %v: %d divides both", f, got, divisor)
				}
			}
			for _, factor := range []int{2, 3, 7, 12, 49, 1000, 30030, 1 << 40} {
				checkReduced(t, fractionOf(num*factor, den*factor), got)
			}
		}
	}
}

// Numbers of all magnitudes, half of them with a common factor.
func TestReducedOfLargeNumbers(t *testing.T) {
	seed, cancelled := 5, 0
	number := func(bits int) int {
		first := seedAfter(seed)
		seed = seedAfter(first)
		return (first<<30 + seed) % powers()[bits]
	}
	for round := range 20000 {
		f := fractionOf(number(1+round%60), 1+number(1+round/60%60))
		if round%2 == 0 {
			factor := 1 + number(20)
			f = fractionOf(number(40)*factor, (1+number(40))*factor)
		}
		checkLowest(t, f)
		if lowest(f) != f {
			cancelled++
		}
	}
	if cancelled < 10000 {
		t.Error("only", cancelled, "fractions have a common divisor")
	}
}

func TestMeshChance(t *testing.T) {
	cases := []struct {
		n, a, b int
		want    impl.Fraction
	}{
		{4, 1, 2, fractionOf(1, 2)},
		{1, 0, 0, fractionOf(1, 1)}, {1, 0, 1, fractionOf(1, 1)}, {1, 1, 0, fractionOf(1, 1)}, {1, 1, 1, fractionOf(0, 1)},
		{2, 1, 1, fractionOf(1, 2)}, {2, 1, 2, fractionOf(0, 1)}, {2, 2, 1, fractionOf(0, 1)}, {2, 2, 0, fractionOf(1, 1)},
		{4, 0, 2, fractionOf(1, 1)}, {4, 2, 0, fractionOf(1, 1)}, {4, 4, 0, fractionOf(1, 1)}, {4, 0, 4, fractionOf(1, 1)},
		{4, 1, 1, fractionOf(3, 4)}, {4, 1, 3, fractionOf(1, 4)}, {4, 2, 2, fractionOf(1, 6)}, {4, 2, 3, fractionOf(0, 1)}, {4, 4, 4, fractionOf(0, 1)},
		{8, 2, 3, fractionOf(5, 14)}, {8, 4, 4, fractionOf(1, 70)},
		{16, 0, 0, fractionOf(1, 1)}, {16, 0, 16, fractionOf(1, 1)}, {16, 16, 0, fractionOf(1, 1)}, {16, 1, 1, fractionOf(15, 16)}, {16, 1, 15, fractionOf(1, 16)},
		{16, 4, 8, fractionOf(1, 26)}, {16, 8, 8, fractionOf(1, 12870)}, {16, 5, 5, fractionOf(11, 104)}, {16, 8, 9, fractionOf(0, 1)}, {16, 16, 16, fractionOf(0, 1)},
	}
	for _, c := range cases {
		checkChance(t, c.n, c.a, c.b, c.want)
		checkChance(t, c.n, c.b, c.a, c.want)
	}
}

// The chance is the fraction of all pairs of bitmaps with so many slots in use that are disjoint, counted one by one.
func TestMeshChanceIsTheFractionOfAllPairs(t *testing.T) {
	for n := 1; n <= 9; n++ {
		all, disjoint := [10][10]int{}, [10][10]int{}
		for x := range powers()[n] {
			for y := range powers()[n] {
				a, b := usedSlots(x), usedSlots(y)
				all[a][b]++
				if x&y == 0 {
					disjoint[a][b]++
				}
			}
		}
		for a := range n + 1 {
			for b := range n + 1 {
				checkChance(t, n, a, b, lowest(fractionOf(disjoint[a][b], all[a][b])))
			}
		}
	}
}

// Of more slots too, the chance is the fraction of the bitmaps with b slots in use that are disjoint from one with a slots in use, whichever it is.
func TestMeshChanceOfManySlots(t *testing.T) {
	for n := 1; n <= impl.MaxSlots; n++ {
		for a := range n + 1 {
			last := powers()[n] - powers()[n-a]
			all, disjoint := make([]int, n+1), make([]int, n+1)
			for bitmap := range powers()[n] {
				b := usedSlots(bitmap)
				all[b]++
				if bitmap&last == 0 {
					disjoint[b]++
				}
			}
			for b := range n + 1 {
				checkChance(t, n, a, b, lowest(fractionOf(disjoint[b], all[b])))
			}
		}
	}
}

// Every bitmap is disjoint from an empty one. If a+b is n, the only disjoint bitmap is the one of all free slots; if it is greater, there is none.
func TestMeshChanceAtTheEnds(t *testing.T) {
	for n := 1; n <= impl.MaxSlots; n++ {
		counts := subsetCounts(n)
		for a := range n + 1 {
			checkChance(t, n, a, 0, fractionOf(1, 1))
			checkChance(t, n, 0, a, fractionOf(1, 1))
			checkChance(t, n, a, n-a, fractionOf(1, counts[a]))
			for b := n - a + 1; b <= n; b++ {
				checkChance(t, n, a, b, fractionOf(0, 1))
			}
		}
	}
}

// The chance is the same in both orders, and each further slot in use makes it less, as long as it is not 0.
func TestMeshChanceFallsWithEachSlot(t *testing.T) {
	for n := 1; n <= impl.MaxSlots; n++ {
		for a := range n + 1 {
			for b := 1; b <= n; b++ {
				chance := impl.MeshChance(n, a, b)
				checkChance(t, n, b, a, chance)
				if more := impl.MeshChance(n, a+1, b); a < n && a+b <= n {
					checkOrder(t, more, chance)
				} else if a < n {
					checkEqual(t, more, chance)
				}
			}
		}
	}
}

func TestMeshChanceAgreesWithCountDisjoint(t *testing.T) {
	for n := 1; n <= mostCounted; n++ {
		for a := range n + 1 {
			for b := range n + 1 {
				count, all := impl.CountDisjoint(n, a, b), impl.Binomial(n, b)
				checkChance(t, n, a, b, impl.Reduced(fractionOf(count, all)))
				if count != impl.Binomial(n-a, b) {
					t.Errorf("CountDisjoint(%d, %d, %d) = %d, but Binomial is %d", n, a, b, count, impl.Binomial(n-a, b))
				}
			}
		}
	}
}

func TestCountDisjoint(t *testing.T) {
	cases := []struct{ n, a, b, want int }{
		{4, 1, 2, 3},
		{1, 0, 0, 1}, {1, 0, 1, 1}, {1, 1, 0, 1}, {1, 1, 1, 0},
		{4, 0, 0, 1}, {4, 0, 2, 6}, {4, 2, 0, 1}, {4, 4, 0, 1}, {4, 0, 4, 1}, {4, 2, 1, 2}, {4, 2, 2, 1}, {4, 3, 1, 1}, {4, 2, 3, 0}, {4, 4, 1, 0}, {4, 4, 4, 0},
		{9, 0, 4, 126}, {9, 9, 0, 1}, {9, 3, 3, 20},
		{10, 0, 0, 1}, {10, 10, 0, 1}, {10, 0, 10, 1}, {10, 10, 10, 0}, {10, 0, 5, 252}, {10, 1, 5, 126}, {10, 5, 5, 1}, {10, 5, 6, 0}, {10, 3, 2, 21},
		{11, 0, 0, 0}, {11, 11, 0, 0}, {11, 0, 11, 0}, {11, 0, 5, 0}, {11, 5, 6, 0}, {11, 5, 5, 0},
		{12, 3, 3, 0}, {16, 0, 0, 0}, {16, 8, 8, 0}, {16, 16, 0, 0},
	}
	for _, c := range cases {
		checkDisjoint(t, c.n, c.a, c.b, c.want)
	}
}

// All numbers of slots up to MaxSlots, and each number in use up to a few more: a disjoint bitmap is one of the n-a slots that the first bitmap leaves free. All that are past the range are rejected.
func TestCountDisjointAndMeshChanceOfAllNumbers(t *testing.T) {
	for n := -2; n <= impl.MaxSlots+3; n++ {
		for a := -2; a <= n+3; a++ {
			for b := -2; b <= n+3; b++ {
				if !haveBitmaps(n, a, b) {
					checkNoChance(t, n, a, b)
					continue
				}
				disjoint := 0
				if a+b <= n {
					disjoint = subsetCounts(n - a)[b]
				}
				checkChance(t, n, a, b, lowest(fractionOf(disjoint, subsetCounts(n)[b])))
				if n > mostCounted {
					disjoint = 0
				}
				checkDisjoint(t, n, a, b, disjoint)
			}
		}
	}
}

func TestCountDisjointAndMeshChanceReject(t *testing.T) {
	for _, n := range nearNumbers() {
		for _, a := range nearNumbers() {
			for _, b := range nearNumbers() {
				if !haveBitmaps(n, a, b) {
					checkNoChance(t, n, a, b)
				}
			}
		}
	}
}

func TestFractionLess(t *testing.T) {
	ascending := []impl.Fraction{
		fractionOf(0, 5), fractionOf(1, largestTerm), fractionOf(1, largestTerm-1), fractionOf(1, 12870), fractionOf(1, 3), fractionOf(333334, largestTerm),
		fractionOf(1, 2), fractionOf(500001, largestTerm), fractionOf(2, 3), fractionOf(3, 4), fractionOf(largestTerm-2, largestTerm-1), fractionOf(largestTerm-1, largestTerm), fractionOf(9, 9),
		fractionOf(largestTerm, largestTerm-1), fractionOf(4, 3), fractionOf(3, 2), fractionOf(2, 1), fractionOf(largestTerm, 3), fractionOf(largestTerm-1, 1), fractionOf(largestTerm, 1),
	}
	for i, f := range ascending {
		checkLess(t, f, f, false)
		for _, g := range ascending[i+1:] {
			checkOrder(t, f, g)
		}
	}
}

func TestFractionLessOfEqualFractions(t *testing.T) {
	for _, equal := range [][]impl.Fraction{
		{fractionOf(1, 2), fractionOf(2, 4), fractionOf(3, 6), fractionOf(500000, largestTerm)},
		{fractionOf(3, 2), fractionOf(6, 4), fractionOf(999999, 666666)},
		{fractionOf(0, 1), fractionOf(0, 2), fractionOf(0, 999999), fractionOf(0, largestTerm)},
		{fractionOf(1, 1), fractionOf(7, 7), fractionOf(largestTerm, largestTerm)},
		{fractionOf(largestTerm, 1)},
		{fractionOf(1, largestTerm)},
		{fractionOf(largestTerm, 2), fractionOf(500000, 1)},
	} {
		for _, f := range equal {
			for _, g := range equal {
				checkEqual(t, f, g)
			}
		}
	}
}

// goodNums and goodDens are numbers in the ranges of FractionLess, with the limits; badNums and badDens are outside.
func goodNums() []int {
	return []int{0, 1, 2, 3, 10, 65536, 500000, largestTerm - 1, largestTerm}
}

func goodDens() []int {
	return goodNums()[1:]
}

func badNums() []int {
	return append(farNumbers(), largestTerm+1, largestTerm+2, 2*largestTerm, 1<<31)
}

func badDens() []int {
	return append(badNums(), 0)
}

// Each two fractions of numbers in the ranges have the order of their values.
func TestFractionLessFollowsTheValues(t *testing.T) {
	fractions := []impl.Fraction{}
	for _, num := range goodNums() {
		for _, den := range goodDens() {
			fractions = append(fractions, fractionOf(num, den))
		}
	}
	for num := range 7 {
		for den := 1; den <= 6; den++ {
			fractions = append(fractions, fractionOf(num, den))
		}
	}
	for _, f := range fractions {
		for _, g := range fractions {
			checkLess(t, f, g, ratioOf(f).Cmp(ratioOf(g)) < 0)
		}
	}
}

// One number out of its range, in each place, with all others in their ranges.
func TestFractionLessRejects(t *testing.T) {
	bad := []impl.Fraction{}
	for _, num := range badNums() {
		for _, den := range goodDens() {
			bad = append(bad, fractionOf(num, den))
		}
	}
	for _, den := range badDens() {
		for _, num := range goodNums() {
			bad = append(bad, fractionOf(num, den))
		}
	}
	for _, f := range bad {
		for _, num := range goodNums() {
			for _, den := range goodDens() {
				checkEqual(t, f, fractionOf(num, den))
			}
		}
	}
}

// Two fractions of which neither has its numbers in the ranges, or both numbers of one are outside.
func TestFractionLessRejectsBoth(t *testing.T) {
	bad := []impl.Fraction{fractionOf(0, 0), fractionOf(1, 0), fractionOf(-1, 1), fractionOf(0, largestTerm+1), fractionOf(largestTerm+1, 1)}
	for _, num := range badNums() {
		for _, den := range badDens() {
			bad = append(bad, fractionOf(num, den))
		}
	}
	good := []impl.Fraction{fractionOf(0, 1), fractionOf(1, 1), fractionOf(1, largestTerm), fractionOf(largestTerm, 1)}
	for _, f := range bad {
		for _, g := range append(good, bad...) {
			checkEqual(t, f, g)
		}
	}
}
