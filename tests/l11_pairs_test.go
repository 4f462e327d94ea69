package tests

import (
	"math"
	"slices"
	"testing"

	"loop.example/g00978/impl"
)

// relation tells for each two indices of a list whether their spans fit.
type relation [][]bool

// relationOf asks for each two of n indices whether they fit.
func relationOf(n int, fit func(i int, k int) bool) relation {
	r := relation{}
	for i := range n {
		row := []bool{}
		for k := range n {
			row = append(row, i != k && fit(min(i, k), max(i, k)))
		}
		r = append(r, row)
	}
	return r
}

// onlyFit is the relation of n indices in which no others than the given pairs fit.
func onlyFit(n int, pairs ...impl.Pair) relation {
	return relationOf(n, func(i int, k int) bool {
		return slices.Contains(pairs, impl.Pair{A: i, B: k}) || slices.Contains(pairs, impl.Pair{A: k, B: i})
	})
}

// fitting builds spans of 16 slots for a relation, with one slot in use in both for each two that do not fit. There are enough slots for all relations of up to 6 indices.
func fitting(r relation) []impl.Span {
	texts, slot := slices.Repeat([]string{noted(16, '.')}, len(r)), 0
	for k := range r {
		for i := range k {
			if !r[i][k] {
				texts[i] = withLetter(texts[i], slot, "x")
				texts[k] = withLetter(texts[k], slot, "x")
				slot++
			}
		}
	}
	return spansOf(texts...)
}

// relations are all relations of n indices.
func relations(n int) []relation {
	list := []relation{}
	for set := range 1 << (n * (n - 1) / 2) {
		list = append(list, relationOf(n, func(i int, k int) bool {
			return bitOf(set, k*(k-1)/2+i)
		}))
	}
	return list
}

// emptySpans are n empty spans of a class: all of them fit if there are no more than pages, and those on one page do not.
func emptySpans(n int, class int) []impl.Span {
	list := []impl.Span{}
	for i := range n {
		list = append(list, impl.Span{Page: i % 32, Class: class})
	}
	return list
}

// fullSpans are n full spans of two slots, of which no two fit.
func fullSpans(n int) []impl.Span {
	return spansOf(slices.Repeat([]string{"xx"}, n)...)
}

// onlyPair are n spans of which only those at a and b fit.
func onlyPair(n int, a int, b int) []impl.Span {
	return withSpan(withSpan(fullSpans(n), a, spanOf(a, "x.")), b, spanOf(b, ".x"))
}

// pairsOf builds a list of pairs from their indices.
func pairsOf(indices ...int) []impl.Pair {
	list := []impl.Pair{}
	for i := 0; i < len(indices); i += 2 {
		list = append(list, impl.Pair{A: indices[i], B: indices[i+1]})
	}
	return list
}

// behindPairs are pairs that would change a result if they were taken for elements: they have one index twice and one that is negative.
func behindPairs() []impl.Pair {
	return pairsOf(0, 0, -1, 1)
}

// roomyPairs returns a list that equals list and has other pairs in the spare capacity behind it.
func roomyPairs(list []impl.Pair) []impl.Pair {
	return append(slices.Clone(list), behindPairs()...)[:len(list)]
}

// untouchedPairs reports whether a list that roomyPairs returned equals list still, with the same behind it.
func untouchedPairs(roomy []impl.Pair, list []impl.Pair) bool {
	behind := behindPairs()
	return slices.Equal(roomy, list) && slices.Equal(roomy[len(roomy):cap(roomy)][:len(behind)], behind)
}

// scribblePairs changes a result and what is behind it, which must not change a later one.
func scribblePairs(list []impl.Pair) {
	list = list[:cap(list)]
	for i := range list {
		list[i] = impl.Pair{A: -7, B: -7}
	}
}

// shuffledBy is Shuffled of a seed in the range.
func shuffledBy(seed int, n int) ([]int, int) {
	order := []int{}
	for i := range n {
		order = append(order, i)
	}
	for last := n - 1; last >= 1; last-- {
		seed = seedAfter(seed)
		chosen := seed / 1024 % (last + 1)
		order[last], order[chosen] = order[chosen], order[last]
	}
	return order, seed
}

// splitModel is SplitPairs of spans that fit as r tells, with arguments in their ranges.
func splitModel(r relation, seed int, tries int) ([]impl.Pair, int) {
	order, next := shuffledBy(seed, len(r))
	right := order[len(r)/2:]
	found, done := []impl.Pair{}, map[int]bool{}
	for range tries {
		for i, a := range order[:len(r)/2] {
			if b := right[i]; !done[a] && !done[b] && r[a][b] {
				found = append(found, impl.Pair{A: a, B: b})
				done[a], done[b] = true, true
			}
		}
		// The next partner of each left index is the one at position 0 now, so that the first right index becomes the last.
		if len(right) > 0 {
			right = append(slices.Clone(right[1:]), right[0])
		}
	}
	return found, next
}

// greedyModel is GreedyPairs of spans that fit as r tells.
func greedyModel(r relation) []impl.Pair {
	found, done := []impl.Pair{}, map[int]bool{}
	for a := range r {
		for b := range r {
			if a < b && r[a][b] && !done[a] && !done[b] {
				found = append(found, impl.Pair{A: a, B: b})
				done[a], done[b] = true, true
			}
		}
	}
	return found
}

// bestModel is the maximum number of disjoint pairs that fit, found for all sets of indices from the small ones up.
func bestModel(r relation) int {
	pairs := []int{}
	for k := range r {
		for i := range k {
			if r[i][k] {
				pairs = append(pairs, 1<<i+1<<k)
			}
		}
	}
	most := make([]int, 1<<len(r))
	for set := range most {
		for _, pair := range pairs {
			if set&pair == pair {
				most[set] = max(most[set], most[set-pair]+1)
			}
		}
	}
	return most[len(most)-1]
}

// checkSplit checks pairs and the next seed, that the list stays as it was, and that a changed result changes no later one.
func checkSplit(t *testing.T, list []impl.Span, seed int, tries int, want []impl.Pair, next int) {
	t.Helper()
	argument := roomySpans(list)
	for range 2 {
		got, after := impl.SplitPairs(argument, seed, tries)
		if !slices.Equal(got, want) || after != next {
			t.Errorf("SplitPairs(%v, %d, %d) = %v, %d, want %v, %d", list, seed, tries, got, after, want, next)
		}
		scribblePairs(got)
	}
	if !untouchedSpans(argument, list) {
		t.Errorf("SplitPairs has changed %v", list)
	}
}

// checkNoSplit checks that the arguments are rejected: no pairs, and the seed unchanged.
func checkNoSplit(t *testing.T, list []impl.Span, seed int, tries int) {
	t.Helper()
	checkSplit(t, list, seed, tries, nil, seed)
}

func checkGreedy(t *testing.T, list []impl.Span, want ...impl.Pair) {
	t.Helper()
	argument := roomySpans(list)
	for range 2 {
		got := impl.GreedyPairs(argument)
		if !slices.Equal(got, want) {
			t.Errorf("GreedyPairs(%v) = %v, want %v", list, got, want)
		}
		scribblePairs(got)
	}
	if !untouchedSpans(argument, list) {
		t.Errorf("GreedyPairs has changed %v", list)
	}
}

func checkBest(t *testing.T, list []impl.Span, want int) {
	t.Helper()
	checkSpans(t, "BestPairs", list, want, impl.BestPairs)
}

// checkPairsOk checks the result for a list of pairs and for the reversed one, and that both arguments stay as they were.
func checkPairsOk(t *testing.T, list []impl.Span, pairs []impl.Pair, want bool) {
	t.Helper()
	backward := slices.Clone(pairs)
	slices.Reverse(backward)
	for _, pairs := range [][]impl.Pair{pairs, backward} {
		argument, spans := roomyPairs(pairs), roomySpans(list)
		if got := impl.PairsOk(spans, argument); got != want {
			t.Errorf("PairsOk(%v, %v) is %v", list, pairs, got)
		}
		if !untouchedSpans(spans, list) || !untouchedPairs(argument, pairs) {
			t.Errorf("PairsOk has changed %v or %v", list, pairs)
		}
	}
}

// checkSearch checks all functions on spans that fit as r tells: both searches against the models, that PairsOk accepts the pairs found, and that there are never more of them than the maximum.
func checkSearch(t *testing.T, list []impl.Span, r relation, seed int, tries int) {
	t.Helper()
	split, next := splitModel(r, seed, tries)
	greedy, best := greedyModel(r), bestModel(r)
	checkSplit(t, list, seed, tries, split, next)
	checkGreedy(t, list, greedy...)
	for _, found := range [][]impl.Pair{split, greedy} {
		checkPairsOk(t, list, found, true)
		if len(found) > best {
			t.Errorf("%d pairs of %v are more than the maximum %d", len(found), list, best)
		}
	}
	if len(list) > 10 {
		best = 0
	}
	checkBest(t, list, best)
}

// badTries are numbers of tries out of range, among them those that a wraparound of 32 bits would let in.
func badTries() []int {
	return []int{-1, -2, -16, -17, math.MinInt, math.MinInt + 1, impl.MaxSearch + 1, impl.MaxSearch + 2, 32, 64, 1 << 32, 1<<32 + 1, math.MaxInt - 1, math.MaxInt}
}

func TestMaxSearch(t *testing.T) {
	if impl.MaxSearch != 16 {
		t.Error("MaxSearch is", impl.MaxSearch)
	}
}

// With seed 0, five indices are in the order 0 4 3 1 2, so that 0 and 4 are the left ones.
func TestSplitPairs(t *testing.T) {
	cases := []struct {
		r     relation
		tries int
		want  []impl.Pair
	}{
		{onlyFit(5), 16, nil},
		{onlyFit(5, pairsOf(0, 3, 4, 1)...), 0, nil},
		{onlyFit(5, pairsOf(0, 3, 4, 1)...), 1, pairsOf(0, 3, 4, 1)},
		{onlyFit(5, pairsOf(0, 1, 4, 2)...), 1, nil},
		{onlyFit(5, pairsOf(0, 1, 4, 2)...), 2, pairsOf(0, 1, 4, 2)},
		{onlyFit(5, pairsOf(0, 2, 4, 3)...), 2, nil},
		{onlyFit(5, pairsOf(0, 2, 4, 3)...), 3, pairsOf(0, 2, 4, 3)},
		// 4 is paired with 1 first, so that 0, which fits 1 too, finds 2 later.
		{onlyFit(5, pairsOf(0, 1, 0, 2, 4, 1)...), 1, pairsOf(4, 1)},
		{onlyFit(5, pairsOf(0, 1, 0, 2, 4, 1)...), 2, pairsOf(4, 1)},
		{onlyFit(5, pairsOf(0, 1, 0, 2, 4, 1)...), 3, pairsOf(4, 1, 0, 2)},
		// 0 is paired with 3 first, so that 4 wraps around to 3 in vain.
		{onlyFit(5, pairsOf(0, 3, 4, 3)...), 16, pairsOf(0, 3)},
		{onlyFit(5, pairsOf(4, 3)...), 3, pairsOf(4, 3)},
		// The left indices fit each other, and so do the right ones, but these are not compared.
		{onlyFit(5, pairsOf(0, 4, 1, 2, 1, 3, 2, 3)...), 16, nil},
		{onlyFit(5, pairsOf(0, 4, 1, 2, 1, 3, 2, 3, 4, 2)...), 16, pairsOf(4, 2)},
		// The pair 0 3 is found first and leaves 1 and 4 over, although two pairs were possible.
		{onlyFit(5, pairsOf(0, 3, 0, 1, 4, 3)...), 16, pairsOf(0, 3)},
		{relationOf(5, func(i int, k int) bool { return true }), 16, pairsOf(0, 3, 4, 1)},
	}
	for _, c := range cases {
		checkSplit(t, fitting(c.r), 0, c.tries, c.want, 375725100)
	}
}

// Two spans, of which the left index is 1 with seed 0 and 0 with seed 1: it is A.
func TestSplitPairsOfTwo(t *testing.T) {
	list := spansOf("x.x.", ".x.x")
	checkSplit(t, list, 0, 0, nil, 12345)
	checkSplit(t, list, 0, 1, pairsOf(1, 0), 12345)
	checkSplit(t, list, 1, 1, pairsOf(0, 1), 29785766)
	checkSplit(t, list, 1, 16, pairsOf(0, 1), 29785766)
	checkSplit(t, spansOf("x.x.", "x..."), 1, 16, nil, 29785766)
}

// An empty list and one of one span have no pair and no choice, so that the seed stays what it was.
func TestSplitPairsOfFewSpans(t *testing.T) {
	for _, seed := range someSeeds() {
		for _, tries := range []int{0, 1, 2, 15, 16} {
			checkSplit(t, nil, seed, tries, nil, seed)
			checkSplit(t, []impl.Span{}, seed, tries, nil, seed)
			checkSplit(t, emptySpans(1, 0), seed, tries, nil, seed)
			checkSplit(t, fullSpans(1), seed, tries, nil, seed)
			checkSplit(t, badSpans()[:1], seed, tries, nil, seed)
		}
	}
}

// Of an odd number of spans, the middle one is on the right, and the one of three on the left has two partners.
func TestSplitPairsOfAnOddNumber(t *testing.T) {
	// The orders are 1 0 2 and 2 0 1.
	checkSplit(t, emptySpans(3, 1), 1, 1, pairsOf(1, 0), 377401575)
	checkSplit(t, onlyPair(3, 1, 2), 1, 1, nil, 377401575)
	checkSplit(t, onlyPair(3, 1, 2), 1, 2, pairsOf(1, 2), 377401575)
	checkSplit(t, onlyPair(3, 0, 2), 1, 16, nil, 377401575)
	checkSplit(t, emptySpans(3, 3), 5, 1, pairsOf(2, 0), 554244747)
	checkSplit(t, onlyPair(3, 1, 2), 5, 2, pairsOf(2, 1), 554244747)
	checkSplit(t, onlyPair(3, 1, 2), 5, 1, nil, 554244747)
	for _, n := range []int{3, 5, 7, 9, 11, 13, 15} {
		for _, seed := range someSeeds() {
			order, next := shuffledBy(seed, n)
			want := []impl.Pair{}
			for i := range n / 2 {
				want = append(want, impl.Pair{A: order[i], B: order[n/2+i]})
			}
			checkSplit(t, emptySpans(n, 2), seed, 1, want, next)
			checkSplit(t, emptySpans(n, 2), seed, impl.MaxSearch, want, next)
		}
	}
}

// Two spans that fit nothing else find each other at the one t for which they are compared, which may wrap around the right indices, and never if they are on the same side.
func TestSplitPairsOfTheOnlyPair(t *testing.T) {
	for n := 2; n <= impl.MaxSearch; n++ {
		for _, seed := range []int{0, 1, impl.MaxSeed} {
			order, next := shuffledBy(seed, n)
			for k, b := range order {
				for i, a := range order[:k] {
					list := onlyPair(n, a, b)
					if i >= n/2 || k < n/2 {
						checkSplit(t, list, seed, impl.MaxSearch, nil, next)
						continue
					}
					tries := 1
					for at := n/2 + i; at != k; tries++ {
						at++
						if at == n {
							at = n / 2
						}
					}
					checkSplit(t, list, seed, tries-1, nil, next)
					checkSplit(t, list, seed, tries, pairsOf(a, b), next)
					checkSplit(t, list, seed, impl.MaxSearch, pairsOf(a, b), next)
				}
			}
		}
	}
}

// MaxSearch spans are searched, and more are too many.
func TestSplitPairsAtTheLimit(t *testing.T) {
	checkSplit(t, emptySpans(16, 0), 12345, 1, pairsOf(11, 6, 8, 9, 3, 12, 0, 13, 4, 10, 14, 7, 2, 1, 15, 5), 622029104)
	checkSplit(t, emptySpans(16, 3), 1073741823, 16, pairsOf(2, 6, 14, 3, 15, 13, 10, 11, 9, 1, 5, 4, 0, 12, 7, 8), 652027854)
	for _, n := range []int{17, 18, 31, 32, 33, 64, 65, 300} {
		for _, seed := range []int{0, 1, 12345, impl.MaxSeed, -1, impl.MaxSeed + 1} {
			for _, tries := range []int{0, 1, 16, 17, -1} {
				checkNoSplit(t, emptySpans(n, 1), seed, tries)
				checkNoSplit(t, fullSpans(n), seed, tries)
			}
		}
	}
}

// The limits of tries and of seeds are accepted, and what is past them is rejected.
func TestSplitPairsRejects(t *testing.T) {
	lists := [][]impl.Span{nil, emptySpans(1, 1), emptySpans(2, 2), emptySpans(5, 0), fullSpans(6), emptySpans(16, 3)}
	for _, list := range lists {
		for _, seed := range []int{0, 1, 12345, impl.MaxSeed - 1, impl.MaxSeed} {
			r := relationOf(len(list), func(int, int) bool { return list[0].Bits == 0 })
			for tries := range impl.MaxSearch + 1 {
				want, next := splitModel(r, seed, tries)
				checkSplit(t, list, seed, tries, want, next)
			}
			for _, tries := range badTries() {
				checkNoSplit(t, list, seed, tries)
			}
		}
		for _, seed := range badSeeds() {
			for _, tries := range []int{0, 1, 2, 15, 16, -1, 17} {
				checkNoSplit(t, list, seed, tries)
			}
		}
	}
	if pairs, next := impl.SplitPairs(nil, impl.MaxSeed, 16); len(pairs) != 0 || next != impl.MaxSeed {
		t.Error("no list has pairs", pairs, "and the next seed", next)
	}
}

// Each relation of up to five spans, and each number of tries.
func TestSearchInSmallLists(t *testing.T) {
	seed := 3
	for n := range 6 {
		for _, r := range relations(n) {
			list := fitting(r)
			for tries := range impl.MaxSearch + 1 {
				checkSearch(t, list, r, seed, tries)
				seed = seedAfter(seed)
			}
		}
	}
}

// Each relation of six spans.
func TestSearchInListsOfSix(t *testing.T) {
	seed := 8
	for i, r := range relations(6) {
		checkSearch(t, fitting(r), r, seed, i%5)
		seed = seedAfter(seed)
	}
}

// Lists of any spans, some of which are not valid, with up to MaxSearch spans and a few more than BestPairs takes.
func TestSearchFollowsTheModel(t *testing.T) {
	seed, bad, beaten := 9, badSpans(), 0
	for round := range 3500 {
		model, next := somePlaced(round%12, 1+round/12%2, 2+round%5, seed)
		if round%70 == 69 {
			model, next = somePlaced(12+round/70%5, 1, 3, seed)
		}
		seed = next
		list := []impl.Span{}
		for _, p := range model {
			list = append(list, p.span(bad))
		}
		r := relationOf(len(model), func(i int, k int) bool { return model[i].meshes(model[k]) })
		checkSearch(t, list, r, seed, round%17)
		if len(list) <= 10 && len(greedyModel(r)) < bestModel(r) {
			beaten++
		}
	}
	if beaten < 20 {
		t.Error("only", beaten, "lists have more pairs than the lexicographic order gives")
	}
}

// A span that is not valid is in no pair, at each place of a list whose other spans all fit.
func TestSearchWithInvalidSpans(t *testing.T) {
	for round, bad := range badSpans() {
		class, n, i := max(0, min(bad.Class, 3)), 3+round%6, round/6
		i %= n
		list := slices.Insert(emptySpans(n-1, class), i, bad)
		r := relationOf(n, func(a int, b int) bool { return a != i && b != i })
		checkSearch(t, list, r, round, 1+round%16)
		for other := range n {
			checkPairsOk(t, list, pairsOf(i, other), false)
			checkPairsOk(t, list, pairsOf(other, i), false)
		}
	}
}

// Lists without a pair: on one page, with a slot in use in all, of different classes, and of spans that are not valid.
func TestSearchWithoutPairs(t *testing.T) {
	for _, list := range [][]impl.Span{
		slices.Repeat(spansOf("...."), 6),
		spansOf("xx", "xx", "xx", "xx"),
		spansOf("x...", "x.x.", "xx..", "x..x"),
		spansOf("..", "....", "........", noted(16, '.')),
		spansOf(noted(15, '.')+"x", "x"+noted(14, '.')+"x", noted(15, '.')+"x"),
		badSpans()[:10],
	} {
		for tries := range impl.MaxSearch + 1 {
			checkSearch(t, list, onlyFit(len(list)), 12345, tries)
		}
		checkPairsOk(t, list, pairsOf(0, 1), false)
		checkPairsOk(t, list, pairsOf(2, 1), false)
	}
}

func TestPairsOk(t *testing.T) {
	list := spansOf("x.x.", ".x.x", "....", "xxxx", "x...", ".x..")
	for _, pairs := range [][]impl.Pair{
		nil, pairsOf(0, 1), pairsOf(1, 0), pairsOf(2, 3), pairsOf(5, 4), pairsOf(0, 5, 1, 4),
		pairsOf(0, 1, 2, 3), pairsOf(1, 0, 3, 2), pairsOf(0, 1, 3, 2, 4, 5), pairsOf(2, 3, 5, 4, 1, 0), pairsOf(4, 1, 5, 0, 3, 2),
	} {
		checkPairsOk(t, list, pairs, true)
	}
	for _, pairs := range [][]impl.Pair{
		pairsOf(0, 3), pairsOf(3, 0), pairsOf(0, 4), pairsOf(5, 1), pairsOf(3, 4), pairsOf(2, 3, 0, 4), pairsOf(0, 1, 2, 3, 4, 4),
		pairsOf(0, 1, 2, 3, 1, 4), pairsOf(0, 1, 1, 2), pairsOf(0, 1, 0, 1), pairsOf(0, 1, 1, 0), pairsOf(0, 5, 2, 0), pairsOf(4, 5, 2, 5),
		pairsOf(0, 6), pairsOf(6, 2), pairsOf(-1, 2), pairsOf(2, -1), pairsOf(2, 3, 6, 6), pairsOf(-1, -1), pairsOf(6, 7),
	} {
		checkPairsOk(t, list, pairs, false)
	}
}

// No pairs are fine for each list, and any pair is one too many for an empty list.
func TestPairsOkOfNoPairs(t *testing.T) {
	for _, list := range [][]impl.Span{nil, {}, emptySpans(1, 0), emptySpans(2, 1), fullSpans(7), badSpans(), emptySpans(40, 2)} {
		checkPairsOk(t, list, nil, true)
		checkPairsOk(t, list, []impl.Pair{}, true)
		if !impl.PairsOk(list, nil) {
			t.Error("no pairs are rejected for", list)
		}
	}
	for _, pairs := range [][]impl.Pair{pairsOf(0, 0), pairsOf(0, 1), pairsOf(1, 0), pairsOf(-1, 0), pairsOf(30, 31), pairsOf(0, 1, 2, 3)} {
		checkPairsOk(t, nil, pairs, false)
		checkPairsOk(t, emptySpans(4, 1)[:0], pairs, false)
		checkPairsOk(t, emptySpans(1, 1), pairs, false)
	}
}

// In a list whose spans all fit, a pair is fine if it has two different indices. The pairs before and behind it do not make up for one that has not.
func TestPairsOkOfEachPair(t *testing.T) {
	numbers := append(noIndexes(), 0, 1, 2, 3, 4, 5, 6, 7, 8, 9, 10, 11, 12)
	for _, n := range []int{1, 2, 5, 10} {
		list := emptySpans(n, 1)
		for _, a := range numbers {
			for _, b := range numbers {
				in := a >= 0 && a < n && b >= 0 && b < n
				checkPairsOk(t, list, pairsOf(a, b), in && a != b)
				for _, more := range [][]impl.Pair{pairsOf(0, 1), pairsOf(9, 8)} {
					apart := !slices.Contains([]int{more[0].A, more[0].B}, a) && !slices.Contains([]int{more[0].A, more[0].B}, b)
					want := in && a != b && apart && max(more[0].A, more[0].B) < n
					checkPairsOk(t, list, append(more, impl.Pair{A: a, B: b}), want)
				}
				checkPairsOk(t, list, append(pairsOf(0, 1, a, b), pairsOf(9, 8)...), in && a != b && n == 10 && min(a, b) > 1 && max(a, b) < 8)
			}
		}
	}
}

// All lists of two and of three pairs over four spans and one number on each side, against a model that counts the indices.
func TestPairsOkOfSeveralPairs(t *testing.T) {
	r := onlyFit(4, pairsOf(0, 1, 0, 2, 1, 3, 2, 3, 1, 2)...)
	list, all := fitting(r), []impl.Pair{}
	for a := -1; a <= 4; a++ {
		for b := -1; b <= 4; b++ {
			all = append(all, impl.Pair{A: a, B: b})
		}
	}
	ok := func(pairs ...impl.Pair) bool {
		seen := map[int]int{}
		for _, p := range pairs {
			if min(p.A, p.B) < 0 || max(p.A, p.B) > 3 || !r[p.A][p.B] {
				return false
			}
			seen[p.A]++
			seen[p.B]++
		}
		return len(seen) == 2*len(pairs)
	}
	for _, p := range all {
		checkPairsOk(t, list, []impl.Pair{p}, ok(p))
		for _, q := range all {
			checkPairsOk(t, list, []impl.Pair{p, q}, ok(p, q))
			for _, last := range all {
				if ok(p, q) || ok(q, last) || ok(p, last) {
					checkPairsOk(t, list, []impl.Pair{p, q, last}, ok(p, q, last))
				}
			}
		}
	}
}

// The lists of PairsOk have no limit.
func TestPairsOkOfLongLists(t *testing.T) {
	list, pairs := emptySpans(640, 3), []impl.Pair{}
	for i := 0; i < 640; i += 2 {
		pairs = append(pairs, impl.Pair{A: i + i%4/2, B: i + 1 - i%4/2})
	}
	checkPairsOk(t, list, pairs, true)
	for _, at := range []int{0, 1, 8, 9, 160, 318, 319} {
		for _, other := range []impl.Pair{{A: 32, B: 64}, {A: 639, B: 640}, {A: -1, B: 0}, {A: 5, B: 5}, {A: pairs[(at+7)%320].A, B: pairs[at].B}, {A: pairs[at].A, B: pairs[(at+319)%320].B}} {
			broken := slices.Clone(pairs)
			broken[at] = other
			checkPairsOk(t, list, broken, false)
			checkPairsOk(t, list, append(slices.Clone(pairs), other), false)
		}
	}
	checkPairsOk(t, list, append(pairs, pairs...), false)
	checkPairsOk(t, emptySpans(2, 3), slices.Repeat(pairsOf(0, 1), 1000), false)
}

func TestBestPairs(t *testing.T) {
	cases := []struct {
		r    relation
		want int
	}{
		{onlyFit(1), 0}, {onlyFit(2), 0}, {onlyFit(2, pairsOf(0, 1)...), 1}, {onlyFit(3, pairsOf(1, 2)...), 1},
		// A path, where the pair in the middle leaves two spans over.
		{onlyFit(4, pairsOf(0, 1, 0, 2, 1, 3)...), 2},
		{onlyFit(6, pairsOf(0, 1, 0, 2, 1, 3, 2, 4, 3, 5)...), 3},
		{onlyFit(4, pairsOf(0, 1, 0, 2, 0, 3)...), 1},
		{onlyFit(4, pairsOf(0, 3, 1, 3, 2, 3)...), 1},
		// Circles of three and five, with and without a tail.
		{onlyFit(3, pairsOf(0, 1, 1, 2, 0, 2)...), 1},
		{onlyFit(4, pairsOf(0, 1, 1, 2, 0, 2, 0, 3)...), 2},
		{onlyFit(5, pairsOf(0, 1, 1, 2, 2, 3, 3, 4, 4, 0)...), 2},
		{onlyFit(6, pairsOf(0, 1, 1, 2, 2, 3, 3, 4, 4, 0, 0, 5)...), 3},
		{onlyFit(6, pairsOf(0, 1, 1, 2, 0, 2, 3, 4, 4, 5, 3, 5)...), 2},
		{onlyFit(6, pairsOf(0, 1, 1, 2, 0, 2, 3, 4, 4, 5, 3, 5, 2, 3)...), 3},
	}
	for _, c := range cases {
		checkBest(t, fitting(c.r), c.want)
		reversed := fitting(c.r)
		slices.Reverse(reversed)
		checkBest(t, reversed, c.want)
	}
}

// Up to 10 spans, all of which fit, none or two of them; 11 and more are too many.
func TestBestPairsAtTheLimit(t *testing.T) {
	for _, list := range [][]impl.Span{nil, {}, badSpans()[:1], badSpans()[:10], badSpans()[:11]} {
		checkBest(t, list, 0)
		if got := impl.BestPairs(list); got != 0 {
			t.Error("BestPairs of", list, "is", got)
		}
	}
	for n, want := range []int{0, 0, 1, 1, 2, 2, 3, 3, 4, 4, 5, 0, 0, 0, 0, 0, 0, 0} {
		for class := range impl.Classes {
			checkBest(t, emptySpans(n, class), want)
		}
		checkBest(t, fullSpans(n), 0)
		for k := range n {
			for i := range k {
				checkBest(t, onlyPair(n, i, k), min(want, 1))
			}
		}
	}
	for _, n := range []int{32, 64, 640} {
		checkBest(t, emptySpans(n, 1), 0)
	}
}

// The full spans fit the empty ones only, which fit one another too, so that the lexicographic order pairs the empty ones and leaves the full ones over.
func TestBestPairsOfTen(t *testing.T) {
	list := spansOf("....", "....", "....", "....", "....", "xxxx", "xxxx", "xxxx", "xxxx", "xxxx")
	checkBest(t, list, 5)
	checkGreedy(t, list, pairsOf(0, 1, 2, 3, 4, 5)...)
	checkPairsOk(t, list, pairsOf(0, 5, 1, 6, 2, 7, 3, 8, 4, 9), true)
	checkBest(t, list[:9], 4)
	checkGreedy(t, list[:9], pairsOf(0, 1, 2, 3, 4, 5)...)
	checkBest(t, withSpan(list, 9, spanOf(9, "..xx")), 5)
	checkBest(t, withSpan(list, 9, spanOf(4, "xxxx")), 5)
	checkBest(t, withSpan(list, 4, spanOf(4, "x...")), 4)
	checkBest(t, append(list, spanOf(10, "....")), 0)
}

func TestGreedyPairs(t *testing.T) {
	cases := []struct {
		r    relation
		want []impl.Pair
	}{
		{onlyFit(1), nil},
		{onlyFit(6), nil},
		{onlyFit(2, pairsOf(0, 1)...), pairsOf(0, 1)},
		{onlyFit(6, pairsOf(4, 5, 2, 3, 0, 1)...), pairsOf(0, 1, 2, 3, 4, 5)},
		{onlyFit(6, pairsOf(5, 0, 4, 1, 3, 2)...), pairsOf(0, 5, 1, 4, 2, 3)},
		// A span that fits several others gets the first one that is left.
		{onlyFit(5, pairsOf(0, 2, 0, 3, 0, 4)...), pairsOf(0, 2)},
		{onlyFit(5, pairsOf(0, 2, 1, 2, 1, 3, 1, 4)...), pairsOf(0, 2, 1, 3)},
		{onlyFit(5, pairsOf(0, 4, 1, 4, 2, 4, 3, 4)...), pairsOf(0, 4)},
		{onlyFit(5, pairsOf(1, 4, 2, 3, 2, 4)...), pairsOf(1, 4, 2, 3)},
		// The pair 0 1 leaves 2 and 3 over, although two pairs were possible.
		{onlyFit(4, pairsOf(0, 1, 0, 2, 1, 3)...), pairsOf(0, 1)},
		{relationOf(5, func(int, int) bool { return true }), pairsOf(0, 1, 2, 3)},
		{relationOf(6, func(int, int) bool { return true }), pairsOf(0, 1, 2, 3, 4, 5)},
	}
	for _, c := range cases {
		checkGreedy(t, fitting(c.r), c.want...)
	}
}

// Up to MaxSearch spans, all of which fit, none or two of them; more are too many.
func TestGreedyPairsAtTheLimit(t *testing.T) {
	for _, list := range [][]impl.Span{nil, {}} {
		if got := impl.GreedyPairs(list); len(got) != 0 {
			t.Error("an empty list has the pairs", got)
		}
	}
	all := pairsOf(0, 1, 2, 3, 4, 5, 6, 7, 8, 9, 10, 11, 12, 13, 14, 15)
	for n := range impl.MaxSearch + 1 {
		for class := range impl.Classes {
			checkGreedy(t, emptySpans(n, class), all[:n/2]...)
		}
		checkGreedy(t, fullSpans(n))
		checkGreedy(t, badSpans()[:n])
		for k := range n {
			for i := range k {
				checkGreedy(t, onlyPair(n, i, k), pairsOf(i, k)...)
			}
		}
	}
	for _, n := range []int{17, 18, 31, 32, 33, 64, 640} {
		checkGreedy(t, emptySpans(n, 1))
		checkGreedy(t, onlyPair(n, 0, 1))
	}
}
