package tests

import (
	"math"
	"slices"
	"strconv"
	"testing"

	"loop.example/g00978/impl"
)

// kernelOf builds a kernel by hand, on the machine that machineOf builds.
func kernelOf(words string, used string, calls int, refuse ...int) impl.Kernel {
	return impl.Kernel{Machine: machineOf(words, used), Calls: calls, Refuse: refuse}
}

// after returns the kernel that a counted call leaves: with another machine and one call more.
func after(k impl.Kernel, m impl.Machine) impl.Kernel {
	return impl.Kernel{Machine: m, Calls: k.Calls + 1, Refuse: k.Refuse}
}

// settled returns m with the entry of one page replaced by hand. The frames that have a page then are used and keep their cells; the others are empty.
func settled(m impl.Machine, page int, e impl.Entry) impl.Machine {
	table := impl.Table{Entries: slices.Clone(m.Table.Entries)}
	table.Entries[page] = e
	frames := framesOf(noted(len(m.Frames.Used), '.'))
	for _, e := range table.Entries {
		if e.Mode != 0 {
			frames.Used[e.Frame] = true
			copy(frames.Cells[e.Frame], m.Frames.Cells[e.Frame])
		}
	}
	return impl.Machine{Frames: frames, Table: table}
}

// entryAt returns the entry of a page, or the zero Entry if there is no such page.
func entryAt(m impl.Machine, page int) impl.Entry {
	if page < 0 || page >= len(m.Table.Entries) {
		return unmapped
	}
	return m.Table.Entries[page]
}

func sameKernel(a impl.Kernel, b impl.Kernel) bool {
	return sameMachine(a.Machine, b.Machine) && a.Calls == b.Calls && slices.Equal(a.Refuse, b.Refuse)
}

// roomyList returns a list that equals list and has spare capacity behind it, filled with what no kernel holds.
func roomyList(list []int) []int {
	return append(slices.Clone(list), beyond, beyond)[:len(list)]
}

// untouchedList reports whether a list that roomyList returned equals list still, with the same behind it.
func untouchedList(roomy []int, list []int) bool {
	return slices.Equal(roomy, list) && slices.Equal(roomy[len(roomy):cap(roomy)][:2], []int{beyond, beyond})
}

// scribbleList fills a list of a result up to its capacity.
func scribbleList(list []int) {
	for i := range list[:cap(list)] {
		list[:cap(list)][i] = 2 * beyond
	}
}

func roomyKernel(k impl.Kernel) impl.Kernel {
	return impl.Kernel{Machine: roomyMachine(k.Machine), Calls: k.Calls, Refuse: roomyList(k.Refuse)}
}

func untouchedKernel(kernel impl.Kernel, k impl.Kernel) bool {
	return untouchedMachine(kernel.Machine, k.Machine) && kernel.Calls == k.Calls && untouchedList(kernel.Refuse, k.Refuse)
}

// checkCall makes a call on a kernel with spare capacity and checks the result, that its slices share no memory with the argument or with one another, and that the argument stays as it was.
func checkCall(t *testing.T, name string, k impl.Kernel, want impl.Kernel, done bool, call func(impl.Kernel) (impl.Kernel, bool)) {
	t.Helper()
	argument := roomyKernel(k)
	got, ok := call(argument)
	if ok != done {
		t.Errorf("%s on %v: the result is %v", name, k, ok)
	}
	if !sameKernel(got, want) {
		t.Errorf("%s on %v: the kernel is %v, want %v", name, k, got, want)
	}
	if !untouchedKernel(argument, k) {
		t.Errorf("%s on %v: the argument has changed", name, k)
	}
	if !apart(got.Machine.Frames) {
		t.Errorf("%s on %v: frames of the result share memory", name, k)
	}
	scribbleMachine(got.Machine)
	if !slices.Equal(got.Refuse, want.Refuse) {
		t.Errorf("%s on %v: Refuse shares memory with a frame of the result", name, k)
	}
	scribbleList(got.Refuse)
	if !untouchedKernel(argument, k) {
		t.Errorf("%s on %v: the result shares memory with the argument", name, k)
	}
}

func checkMapNew(t *testing.T, k impl.Kernel, page int, want impl.Kernel, done bool) {
	t.Helper()
	checkCall(t, "KMapNew("+strconv.Itoa(page)+")", k, want, done, func(k impl.Kernel) (impl.Kernel, bool) {
		return impl.KMapNew(k, page)
	})
}

func checkMapOn(t *testing.T, k impl.Kernel, page int, other int, want impl.Kernel, done bool) {
	t.Helper()
	checkCall(t, "KMapOn("+strconv.Itoa(page)+", "+strconv.Itoa(other)+")", k, want, done, func(k impl.Kernel) (impl.Kernel, bool) {
		return impl.KMapOn(k, page, other)
	})
}

func checkProtect(t *testing.T, k impl.Kernel, page int, mode int, want impl.Kernel, done bool) {
	t.Helper()
	checkCall(t, "KProtect("+strconv.Itoa(page)+", "+strconv.Itoa(mode)+")", k, want, done, func(k impl.Kernel) (impl.Kernel, bool) {
		return impl.KProtect(k, page, mode)
	})
}

func checkUnmap(t *testing.T, k impl.Kernel, page int, want impl.Kernel, done bool) {
	t.Helper()
	checkCall(t, "KUnmap("+strconv.Itoa(page)+")", k, want, done, func(k impl.Kernel) (impl.Kernel, bool) {
		return impl.KUnmap(k, page)
	})
}

func checkCopy(t *testing.T, k impl.Kernel, from int, to int, cells []int, want impl.Kernel, done bool) {
	t.Helper()
	name := "KCopy(" + strconv.Itoa(from) + ", " + strconv.Itoa(to) + ")"
	checkCall(t, name, k, want, done, func(k impl.Kernel) (impl.Kernel, bool) {
		list := roomyList(cells)
		got, ok := impl.KCopy(k, from, to, list)
		if !untouchedList(list, cells) {
			t.Errorf("%s has changed the cells %v", name, cells)
		}
		return got, ok
	})
}

// checkKernelOk also checks that the argument stays as it was.
func checkKernelOk(t *testing.T, name string, k impl.Kernel, want bool) {
	t.Helper()
	argument := roomyKernel(k)
	if got := impl.KernelOk(argument); got != want {
		t.Errorf("%s: KernelOk(%v) is %v", name, k, got)
	}
	if !untouchedKernel(argument, k) {
		t.Errorf("%s: KernelOk has changed the argument", name)
	}
}

// goodRefuse are lists that a kernel can refuse.
func goodRefuse() [][]int {
	full := make([]int, 40)
	for i := range full {
		full[i] = 3*i + 1
	}
	return [][]int{
		nil, {}, {0}, {1}, {5, 3, 4, 0}, {7, 7, 7}, {99999}, {100000}, {100001}, {math.MaxInt}, {0, math.MaxInt, 0, 1 << 40},
		full[:39], full, make([]int, 39), make([]int, 40), slices.Repeat([]int{math.MaxInt}, 40),
	}
}

// badRefuse are lists that no kernel has, each for one reason, and one for two.
func badRefuse() map[string][]int {
	late, early := make([]int, 40), make([]int, 40)
	late[39], early[0] = -1, -1
	return map[string][]int{
		"one element too many":            make([]int, 41),
		"one element too many, all equal": slices.Repeat([]int{9}, 41),
		"two elements too many":           make([]int, 42),
		"many elements":                   make([]int, 1000),
		"-1 alone":                        {-1},
		"-1 is the first one":             {-1, 2, 3},
		"-1 is the last one":              {2, 3, -1},
		"-1 is between others":            {2, -1, 3},
		"-1 is the first of 40":           early,
		"-1 is the last of 40":            late,
		"-2":                              {0, -2},
		"-100000":                         {-100000},
		"the smallest integer":            {math.MinInt},
		"41 elements, one of them is -1":  append(make([]int, 40), -1),
	}
}

func goodCalls() []int {
	return []int{0, 1, 2, 40, 90001, 99998, 99999, 100000}
}

func badCalls() []int {
	return []int{-1, -2, -100000, math.MinInt, math.MinInt + 1, 100001, 100002, 200000, 1 << 32, math.MaxInt - 1, math.MaxInt}
}

// badKernels are kernels that are not valid, nearly all of them for one reason only.
func badKernels() map[string]impl.Kernel {
	const words, used = "w3 . r0 w1", "xx.x"
	list := map[string]impl.Kernel{"nothing at all": {}}
	for name, m := range badMachines() {
		list["machine: "+name] = impl.Kernel{Machine: m, Calls: 3, Refuse: []int{8}}
	}
	for _, calls := range badCalls() {
		list["Calls is "+strconv.Itoa(calls)] = kernelOf(words, used, calls, 8)
		list["no Refuse, and Calls is "+strconv.Itoa(calls)] = kernelOf(words, used, calls)
	}
	for name, refuse := range badRefuse() {
		list["Refuse: "+name] = kernelOf(words, used, 3, refuse...)
	}
	list["all of it"] = impl.Kernel{Machine: machineOf(words, "...."), Calls: -1, Refuse: make([]int, 41)}
	return list
}

func TestMaxRefuse(t *testing.T) {
	if impl.MaxRefuse != 40 {
		t.Error("the limit is", impl.MaxRefuse)
	}
}

func TestKernelNew(t *testing.T) {
	for _, n := range [][2]int{{1, 1}, {1, 32}, {32, 1}, {32, 32}, {4, 2}, {7, 31}, {31, 5}} {
		for _, refuse := range goodRefuse() {
			want := kernelOf(pagesOf(n[0], "."), noted(n[1], '.'), 0, slices.Clone(refuse)...)
			argument := roomyList(refuse)
			k, ok := impl.KernelNew(n[0], n[1], argument)
			if !ok || !sameKernel(k, want) || !impl.KernelOk(k) || !apart(k.Machine.Frames) {
				t.Errorf("KernelNew(%d, %d, %v) = %v, %v", n[0], n[1], refuse, k, ok)
			}
			scribbleMachine(k.Machine)
			scribbleList(k.Refuse)
			if !untouchedList(argument, refuse) {
				t.Errorf("KernelNew(%d, %d, %v) has changed the list or shares memory with it", n[0], n[1], refuse)
			}
			if again, _ := impl.KernelNew(n[0], n[1], refuse); !sameKernel(again, want) {
				t.Errorf("KernelNew(%d, %d, %v) after its result was written over: %v", n[0], n[1], refuse, again)
			}
		}
	}
}

func checkNoKernel(t *testing.T, pages int, frames int, refuse []int) {
	t.Helper()
	argument := roomyList(refuse)
	k, ok := impl.KernelNew(pages, frames, argument)
	if ok || !sameKernel(k, impl.Kernel{}) {
		t.Errorf("KernelNew(%d, %d, %v) = %v, %v", pages, frames, refuse, k, ok)
	}
	if !untouchedList(argument, refuse) {
		t.Errorf("KernelNew(%d, %d, %v) has changed the list", pages, frames, refuse)
	}
}

func TestKernelNewRejects(t *testing.T) {
	bad := append(noIndexes(), 0, -3, 33, 34, 100)
	for _, n := range bad {
		for _, refuse := range goodRefuse() {
			for _, good := range []int{1, 2, 32} {
				checkNoKernel(t, n, good, refuse)
				checkNoKernel(t, good, n, refuse)
			}
			checkNoKernel(t, n, n, refuse)
		}
	}
	for _, refuse := range badRefuse() {
		checkNoKernel(t, 1, 1, refuse)
		checkNoKernel(t, 4, 2, refuse)
		checkNoKernel(t, 32, 32, refuse)
		checkNoKernel(t, 0, 2, refuse)
		checkNoKernel(t, 4, 33, refuse)
	}
}

func TestKernelOk(t *testing.T) {
	machines := [][2]string{{".", "."}, {"w0", "x"}, {"w3 . r0 w1", "xx.x"}, {"w0 w0 r0", "x."}, {pagesOf(32, "w31"), noted(31, '.') + "x"}, {pagesOf(32, "."), noted(32, '.')}}
	for _, c := range machines {
		for _, calls := range goodCalls() {
			for _, refuse := range goodRefuse() {
				checkKernelOk(t, "valid", kernelOf(c[0], c[1], calls, refuse...), true)
			}
		}
		for _, calls := range badCalls() {
			checkKernelOk(t, "Calls", kernelOf(c[0], c[1], calls), false)
			checkKernelOk(t, "Calls", kernelOf(c[0], c[1], calls, 0, 3), false)
		}
		for name, refuse := range badRefuse() {
			checkKernelOk(t, name, kernelOf(c[0], c[1], 0, refuse...), false)
			checkKernelOk(t, name, kernelOf(c[0], c[1], 100000, refuse...), false)
		}
	}
	for name, k := range badKernels() {
		checkKernelOk(t, name, k, false)
	}
}

// checkNoCalls makes calls on a kernel that takes none: it comes back as it is, whatever the call would do otherwise.
func checkNoCalls(t *testing.T, k impl.Kernel) {
	t.Helper()
	pages := []int{-1, 0, 1, 2, 3, 4, 33}
	for _, page := range pages {
		checkMapNew(t, k, page, k, false)
		checkUnmap(t, k, page, k, false)
		for _, mode := range []int{-1, 0, 1, 2, 3} {
			checkProtect(t, k, page, mode, k, false)
		}
	}
	for _, pair := range [][2]int{{0, 2}, {2, 0}, {0, 3}, {3, 0}, {2, 3}, {0, 0}, {0, 1}, {1, 0}, {-1, 0}, {0, 4}} {
		checkMapOn(t, k, pair[0], pair[1], k, false)
		for _, cells := range [][]int{nil, {3}, {0, 15}, {-1}, {16}} {
			checkCopy(t, k, pair[0], pair[1], cells, k, false)
		}
	}
}

func TestInvalidKernelsTakeNoCalls(t *testing.T) {
	for _, k := range badKernels() {
		checkNoCalls(t, k)
	}
}

// A kernel that has counted 100000 calls is valid, but takes none, also none of those that are not counted.
func TestFullKernelsTakeNoCalls(t *testing.T) {
	for _, refuse := range goodRefuse() {
		k := kernelOf("w3 . r0 w1", "xx.x", 100000, refuse...)
		checkKernelOk(t, "full", k, true)
		checkNoCalls(t, k)
	}
}

// The last call is the one with the number 99999; it can be refused like any other.
func TestLastCall(t *testing.T) {
	k := kernelOf("w3 . r0 w1", "xx.x", 99999)
	checkMapNew(t, k, 1, after(k, settled(k.Machine, 1, entryOf(2, 2))), true)
	checkMapNew(t, k, 0, after(k, k.Machine), false)
	checkMapOn(t, k, 0, 2, after(k, settled(k.Machine, 0, entryOf(2, 0))), true)
	checkMapOn(t, k, 0, 1, after(k, k.Machine), false)
	checkProtect(t, k, 0, 1, after(k, settled(k.Machine, 0, entryOf(1, 3))), true)
	checkProtect(t, k, 0, 0, after(k, k.Machine), false)
	refused := kernelOf("w3 . r0 w1", "xx.x", 99999, 99999)
	checkMapNew(t, refused, 1, after(refused, k.Machine), false)
	checkMapOn(t, refused, 0, 2, after(refused, k.Machine), false)
	checkProtect(t, refused, 0, 1, after(refused, k.Machine), false)
	for _, left := range []impl.Kernel{k, refused} {
		left.Calls = 99998
		left, _ = impl.KProtect(left, 0, 1)
		left, _ = impl.KMapOn(left, 0, 2)
		if left.Calls != 100000 || !impl.KernelOk(left) {
			t.Errorf("after the last call: %v", left)
		}
		checkNoCalls(t, left)
	}
}

// machinesOfThree are all valid machines of three pages and two frames.
func machinesOfThree() []impl.Machine {
	words := []string{".", "r0", "w0", "r1", "w1"}
	list := []impl.Machine{}
	for choice := range 5 * 5 * 5 {
		a, b, c := choice%5, choice/5%5, choice/25
		used := []byte("..")
		for _, i := range []int{a, b, c} {
			if i > 0 {
				used[(i-1)/2] = 'x'
			}
		}
		list = append(list, machineOf(words[a]+" "+words[b]+" "+words[c], string(used)))
	}
	return list
}

// smallKernel is a kernel and whether it refuses its next call.
type smallKernel struct {
	kernel  impl.Kernel
	refused bool
}

// kernelsOfThree are kernels on all machines of machinesOfThree.
func kernelsOfThree() []smallKernel {
	list := []smallKernel{}
	for _, m := range machinesOfThree() {
		list = append(list,
			smallKernel{kernel: impl.Kernel{Machine: m}},
			smallKernel{kernel: impl.Kernel{Machine: m, Calls: 6, Refuse: []int{9, 7, 5, 0}}},
			smallKernel{kernel: impl.Kernel{Machine: m, Calls: 6, Refuse: []int{9, 0, 6}}, refused: true},
			smallKernel{kernel: impl.Kernel{Machine: m, Refuse: []int{0}}, refused: true})
	}
	return list
}

func TestMapNewOnSmallKernels(t *testing.T) {
	for _, c := range kernelsOfThree() {
		k, m := c.kernel, c.kernel.Machine
		free := slices.Index(m.Frames.Used, false)
		for page := -1; page <= 3; page++ {
			if !c.refused && page >= 0 && page < 3 && m.Table.Entries[page].Mode == 0 && free >= 0 {
				checkMapNew(t, k, page, after(k, settled(m, page, entryOf(2, free))), true)
			} else {
				checkMapNew(t, k, page, after(k, m), false)
			}
		}
	}
}

func TestMapOnOnSmallKernels(t *testing.T) {
	for _, c := range kernelsOfThree() {
		k, m := c.kernel, c.kernel.Machine
		for page := -1; page <= 3; page++ {
			for other := -1; other <= 3; other++ {
				target := entryAt(m, other)
				if !c.refused && page != other && entryAt(m, page).Mode != 0 && target.Mode != 0 {
					checkMapOn(t, k, page, other, after(k, settled(m, page, entryOf(2, target.Frame))), true)
				} else {
					checkMapOn(t, k, page, other, after(k, m), false)
				}
			}
		}
	}
}

func TestProtectOnSmallKernels(t *testing.T) {
	for _, c := range kernelsOfThree() {
		k, m := c.kernel, c.kernel.Machine
		for page := -1; page <= 3; page++ {
			e := entryAt(m, page)
			for mode := -1; mode <= 3; mode++ {
				if !c.refused && e.Mode != 0 && (mode == 1 || mode == 2) {
					checkProtect(t, k, page, mode, after(k, settled(m, page, entryOf(mode, e.Frame))), true)
				} else {
					checkProtect(t, k, page, mode, after(k, m), false)
				}
			}
		}
	}
}

// KUnmap and KCopy are not counted and cannot be refused, also not by a kernel that refuses its next call.
func TestUnmapAndCopyOnSmallKernels(t *testing.T) {
	for _, c := range kernelsOfThree() {
		k, m := c.kernel, c.kernel.Machine
		for page := -1; page <= 3; page++ {
			e := entryAt(m, page)
			want := k
			if e.Mode != 0 {
				want.Machine = settled(m, page, unmapped)
			}
			checkUnmap(t, k, page, want, e.Mode != 0)
			for to := -1; to <= 3; to++ {
				target := entryAt(m, to)
				want := k
				if e.Mode != 0 && target.Mode != 0 {
					want.Machine = settled(m, page, e)
					want.Machine.Frames.Cells[target.Frame][4] = m.Frames.Cells[e.Frame][4]
				}
				checkCopy(t, k, page, to, []int{4}, want, e.Mode != 0 && target.Mode != 0)
			}
		}
	}
}

func TestMapNewTakesTheFirstFrame(t *testing.T) {
	cases := []struct {
		words, used string
		page, frame int
	}{
		{".", ".", 0, 0}, {". .", "..", 1, 0}, {"w0 .", "x.", 1, 1}, {"w1 .", ".x", 1, 0}, {"r2 . w0 .", "x.x.", 3, 1}, {"w0 w1 r2 .", "xxx.", 3, 3},
		{"w0 w0 .", "x" + noted(31, '.'), 2, 1}, {pagesOf(31, "w0") + ".", "x.", 31, 1}, {pagesOf(31, ".") + "w31", noted(31, '.') + "x", 0, 0},
	}
	for _, c := range cases {
		k := kernelOf(c.words, c.used, 5, 3)
		checkMapNew(t, k, c.page, after(k, settled(k.Machine, c.page, entryOf(2, c.frame))), true)
	}
}

func TestMapNewRejects(t *testing.T) {
	for _, c := range [][2]string{{"w0", "x."}, {"w3 . r0 w1", "xx.x"}, {pagesOf(32, "."), "..."}, {". " + pagesOf(30, "r1") + "w0", "xx."}} {
		k := kernelOf(c[0], c[1], 12, 40, 3)
		for _, page := range noPages(len(k.Machine.Table.Entries)) {
			checkMapNew(t, k, page, after(k, k.Machine), false)
		}
		for page, e := range k.Machine.Table.Entries {
			if e.Mode != 0 {
				checkMapNew(t, k, page, after(k, k.Machine), false)
			}
		}
	}
	for _, c := range [][2]string{{"w0 .", "x"}, {"r1 . w0", "xx"}, {"w0 w0 . .", "x"}} {
		k := kernelOf(c[0], c[1], 0)
		for page := range len(k.Machine.Table.Entries) {
			checkMapNew(t, k, page, after(k, k.Machine), false)
		}
	}
}

// All frames can be taken, one for each page, and one page more finds none.
func TestMapNewUntilAllFramesAreUsed(t *testing.T) {
	for _, n := range [][2]int{{4, 2}, {32, 31}, {32, 32}, {3, 32}} {
		k, _ := impl.KernelNew(n[0], n[1], nil)
		for i := range n[0] {
			page := n[0] - 1 - i
			want, fits := after(k, k.Machine), i < n[1]
			if fits {
				want = after(k, settled(k.Machine, page, entryOf(2, i)))
			}
			checkMapNew(t, k, page, want, fits)
			k, _ = impl.KMapNew(k, page)
		}
		if k.Calls != n[0] || impl.UsedFrames(k.Machine.Frames) != min(n[0], n[1]) {
			t.Errorf("after %d calls, %d are counted, and %d frames are used", n[0], k.Calls, impl.UsedFrames(k.Machine.Frames))
		}
	}
}

// A page cannot be mapped on itself, whether it is alone on its frame or not; the frame and its cells stay.
func TestMapOnItself(t *testing.T) {
	for _, c := range [][2]string{{"w0", "x"}, {"r0 w1", "xx"}, {"w0 w0 r0", "x"}, {"w3 . r0 w1", "xx.x"}, {pagesOf(31, ".") + "w31", noted(31, '.') + "x"}} {
		k := kernelOf(c[0], c[1], 7, 9, 8)
		for page := range k.Machine.Table.Entries {
			checkMapOn(t, k, page, page, after(k, k.Machine), false)
		}
		for _, page := range noPages(len(k.Machine.Table.Entries)) {
			checkMapOn(t, k, page, page, after(k, k.Machine), false)
		}
	}
}

// A page that is mapped on one of the same frame gets ModeWrite; the frame is not given back, as it has its pages still.
func TestMapOnTheSameFrame(t *testing.T) {
	for _, c := range [][4]string{{"w0 w0", "x", "w0 w0", "w0 w0"}, {"r0 w0", "x", "w0 w0", "r0 w0"}, {"r1 r1 w0", "xx", "w1 r1 w0", "r1 w1 w0"}, {"w2 r2 r2 .", "..x.", "w2 r2 r2 .", "w2 w2 r2 ."}} {
		k := kernelOf(c[0], c[1], 7)
		checkMapOn(t, k, 0, 1, after(k, machineOf(c[2], c[1])), true)
		checkMapOn(t, k, 1, 0, after(k, machineOf(c[3], c[1])), true)
	}
}

// The frame that a page leaves is given back and emptied if it was the last one there, and only then.
func TestMapOnGivesTheFrameBack(t *testing.T) {
	cases := []struct {
		words, used string
		page, other int
		want, left  string
	}{
		{"w0 w1", "xx", 0, 1, "w1 w1", ".x"},
		{"w0 w1", "xx", 1, 0, "w0 w0", "x."},
		{"r0 r1", "xx", 0, 1, "w1 r1", ".x"},
		{"w0 r0 w1", "xx", 0, 2, "w1 r0 w1", "xx"},
		{"w0 r0 w1", "xx", 1, 2, "w0 w1 w1", "xx"},
		{"w0 r0 w1", "xx", 2, 1, "w0 r0 w0", "x."},
		{"w3 . r0 w1", "xx.x", 0, 3, "w1 . r0 w1", "xx.."},
		{"w3 . r0 w1", "xx.x", 2, 0, "w3 . w3 w1", ".x.x"},
		{"w3 . r0 w1 r3", "xx.x", 0, 2, "w0 . r0 w1 r3", "xx.x"},
		{"w0 " + pagesOf(30, ".") + "w1", "xx", 31, 0, "w0 " + pagesOf(30, ".") + "w0", "x."},
		{pagesOf(31, "r1") + "w0", "xx", 31, 30, pagesOf(31, "r1") + "w1", ".x"},
		{pagesOf(31, "r1") + "w0", "xx", 30, 31, pagesOf(30, "r1") + "w0 w0", "xx"},
	}
	for _, c := range cases {
		k := kernelOf(c.words, c.used, 21, 22, 20)
		checkMapOn(t, k, c.page, c.other, after(k, machineOf(c.want, c.left)), true)
	}
}

func TestMapOnRejects(t *testing.T) {
	k := kernelOf("w3 . r0 . w1", "xx.x", 2)
	for _, pair := range [][2]int{{1, 3}, {3, 1}, {1, 0}, {0, 1}, {2, 3}, {3, 2}, {4, 1}, {1, 4}} {
		checkMapOn(t, k, pair[0], pair[1], after(k, k.Machine), false)
	}
	for _, page := range noPages(5) {
		for _, other := range []int{0, 1, 2, 4, page, -1, 5} {
			checkMapOn(t, k, page, other, after(k, k.Machine), false)
			checkMapOn(t, k, other, page, after(k, k.Machine), false)
		}
	}
}

func TestProtect(t *testing.T) {
	for _, c := range [][2]string{{"w0", "x"}, {"r0 w0 r1", "xx"}, {"w3 . r0 w1", "xx.x"}, {pagesOf(31, ".") + "w7", noted(7, '.') + "x"}} {
		k := kernelOf(c[0], c[1], 2, 1, 3)
		for page, e := range k.Machine.Table.Entries {
			for _, mode := range []int{-2, -1, 0, 1, 2, 3, 4, 10, math.MinInt, math.MinInt + 1, 1<<32 + 1, 1<<32 + 2, math.MaxInt} {
				if e.Mode != 0 && (mode == 1 || mode == 2) {
					checkProtect(t, k, page, mode, after(k, settled(k.Machine, page, entryOf(mode, e.Frame))), true)
				} else {
					checkProtect(t, k, page, mode, after(k, k.Machine), false)
				}
			}
		}
		for _, page := range noPages(len(k.Machine.Table.Entries)) {
			for _, mode := range []int{0, 1, 2, 3} {
				checkProtect(t, k, page, mode, after(k, k.Machine), false)
			}
		}
	}
}

// A protected page takes no stores, and takes them again when it is not protected any more; the other pages of its frame are as they were.
func TestProtectedPage(t *testing.T) {
	k := kernelOf("w0 w0", "x", 0)
	k, protected := impl.KProtect(k, 0, 1)
	checkFault(t, "protected", k.Machine, 4, 9, 2)
	m, fault := impl.Store(k.Machine, 20, 9)
	k.Machine = m
	k, freed := impl.KProtect(k, 0, 2)
	v, _ := impl.Load(k.Machine, 4)
	_, again := impl.Store(k.Machine, 4, 8)
	if !protected || !freed || fault != 0 || v != 9 || again != 0 || k.Calls != 2 {
		t.Error("unexpected result", protected, freed, fault, v, again, k.Calls)
	}
}

func TestUnmap(t *testing.T) {
	cases := []struct {
		words, used string
		page        int
		want, left  string
	}{
		{"w0", "x", 0, ".", "."},
		{"r0", "x", 0, ".", "."},
		{"w0 w0", "x", 0, ". w0", "x"},
		{"w0 r0", "x", 1, "w0 .", "x"},
		{"w0 w1", "xx", 0, ". w1", ".x"},
		{"w3 . r0 w1", "xx.x", 2, "w3 . . w1", ".x.x"},
		{"w3 . r0 w1 w3", "xx.x", 0, ". . r0 w1 w3", "xx.x"},
		{pagesOf(32, "r5"), ".....x", 31, pagesOf(31, "r5") + ".", ".....x"},
		{pagesOf(31, ".") + "w31", noted(31, '.') + "x", 31, pagesOf(32, "."), noted(32, '.')},
	}
	for _, c := range cases {
		for _, refuse := range [][]int{nil, {4, 5, 6}} {
			checkUnmap(t, kernelOf(c.words, c.used, 5, refuse...), c.page, kernelOf(c.want, c.left, 5, refuse...), true)
		}
	}
}

func TestUnmapRejects(t *testing.T) {
	for _, words := range []string{"w3 . r0 w1 .", "w3 r3 . r0 w1", ". w3 r0 w1"} {
		k := kernelOf(words, "xx.x", 5, 5)
		for page, e := range k.Machine.Table.Entries {
			if e.Mode == 0 {
				checkUnmap(t, k, page, k, false)
			}
		}
		for _, page := range noPages(len(k.Machine.Table.Entries)) {
			checkUnmap(t, k, page, k, false)
		}
	}
}

// The pages of a frame are unmapped one by one; the cells stay until the last one goes, and a new page on the frame is empty.
func TestUnmapEachPageOfAFrame(t *testing.T) {
	k := kernelOf("w1 r1 w0 w1", "xx", 0)
	for i, page := range []int{1, 3, 0} {
		last := i == 2
		want := k
		want.Machine = settled(k.Machine, page, unmapped)
		checkUnmap(t, k, page, want, true)
		k, _ = impl.KUnmap(k, page)
		checkUnmap(t, k, page, k, false)
		if k.Machine.Frames.Used[1] == last || last != slices.Equal(k.Machine.Frames.Cells[1], make([]int, 16)) {
			t.Errorf("after page %d, frame 1 is %v", page, k.Machine.Frames)
		}
	}
	k, ok := impl.KMapNew(k, 3)
	if !ok || k.Calls != 1 || !slices.Equal(impl.PageText(k.Machine, 3), make([]int, 16)) {
		t.Errorf("a new page is %v", impl.PageText(k.Machine, 3))
	}
}

// copied returns the kernel with some cells of one frame written over by those of another one.
func copied(k impl.Kernel, from int, to int, cells []int) impl.Kernel {
	f := framesOf(noted(len(k.Machine.Frames.Used), '.'))
	copy(f.Used, k.Machine.Frames.Used)
	for frame := range f.Cells {
		for at := range 16 {
			source := frame
			if frame == to && slices.Contains(cells, at) {
				source = from
			}
			f.Cells[frame][at] = k.Machine.Frames.Cells[source][at]
		}
	}
	k.Machine.Frames = f
	return k
}

func TestCopy(t *testing.T) {
	every := []int{0, 1, 2, 3, 4, 5, 6, 7, 8, 9, 10, 11, 12, 13, 14, 15}
	backwards := slices.Clone(every)
	slices.Reverse(backwards)
	lists := [][]int{nil, {}, {0}, {15}, {0, 15}, {15, 0}, {3, 3}, {7, 2, 7, 2, 7}, {4, 5, 6, 7}, every, backwards, slices.Concat(every, backwards, every), make([]int, 500)}
	for _, words := range []string{"w3 . r0 w1 w0 r3", "r3 r0 . r1 r1 w3", "w0 w1 w3 . w0 w0"} {
		for _, refuse := range [][]int{nil, {5}} {
			k := kernelOf(words, "xx.x", 5, refuse...)
			for from, source := range k.Machine.Table.Entries {
				for to, target := range k.Machine.Table.Entries {
					for _, cells := range lists {
						if source.Mode != 0 && target.Mode != 0 {
							checkCopy(t, k, from, to, cells, copied(k, source.Frame, target.Frame, cells), true)
						} else {
							checkCopy(t, k, from, to, cells, k, false)
						}
					}
				}
			}
		}
	}
}

// Each single cell is copied, with the smallest and the largest value, and no other one.
func TestCopyOfEachCell(t *testing.T) {
	for at := range 16 {
		for _, v := range []int{0, 1, 998, 999} {
			k := kernelOf("r1 . w0", "xx", 0)
			withCell(k.Machine.Frames, 1, at, v)
			checkCopy(t, k, 0, 2, []int{at}, copied(k, 1, 0, []int{at}), true)
			checkCopy(t, k, 2, 0, []int{at}, copied(k, 0, 1, []int{at}), true)
		}
	}
}

// One cell that does not exist is enough for nothing to be copied, wherever it stands in the list, also where a copy would have no effect.
func TestCopyRejects(t *testing.T) {
	k := kernelOf("w3 . r0 w1 w3", "xx.x", 5, 9)
	for _, at := range append(noIndexes(), 16, 17, 31, 32, 100) {
		for _, cells := range [][]int{{at}, {at, 0, 1}, {0, at, 1}, {0, 1, at}, {at, at}, {15, 3, at, -1}} {
			for _, pair := range [][2]int{{0, 2}, {2, 0}, {3, 3}, {0, 4}, {1, 0}, {0, 1}} {
				checkCopy(t, k, pair[0], pair[1], cells, k, false)
			}
		}
	}
	for _, page := range append(noPages(5), 1) {
		for _, cells := range [][]int{nil, {0}, {3, 4}} {
			for _, other := range []int{0, 1, 2, page} {
				checkCopy(t, k, page, other, cells, k, false)
				checkCopy(t, k, other, page, cells, k, false)
			}
		}
	}
}

// The numbers in Refuse are refused and no others, in whatever order they stand there, also those of calls that would return false anyway.
func TestRefusedCalls(t *testing.T) {
	lists := [][]int{nil, {}, {0}, {1}, {19}, {20, 100}, {3, 4, 5}, {5, 4, 3}, {7, 7, 0, 7}, {2, 19, 0, 11, 11, 6}, {math.MaxInt, 1}, {18, 16, 14, 12, 10, 8, 6, 4, 2, 0}}
	for _, refuse := range lists {
		k, _ := impl.KernelNew(3, 2, refuse)
		k.Machine = machineOf("w0 w1 .", "xx")
		for call := range 20 {
			granted := !slices.Contains(refuse, call)
			mode := 1 + call%2
			protected := k.Machine
			if granted {
				protected = settled(k.Machine, 0, entryOf(mode, 0))
			}
			checkProtect(t, k, 0, mode, after(k, protected), granted)
			checkProtect(t, k, 0, 3, after(k, k.Machine), false)
			checkMapOn(t, k, 1, 1, after(k, k.Machine), false)
			checkMapNew(t, k, 2, after(k, k.Machine), false)
			joined := k.Machine
			if granted {
				joined = settled(k.Machine, 1, entryOf(2, 0))
			}
			checkMapOn(t, k, 1, 0, after(k, joined), granted)
			k, _ = impl.KProtect(k, 0, mode)
		}
	}
}

// A list of 40 elements is searched to its end.
func TestEachOfFortyRefusedCalls(t *testing.T) {
	refuse := make([]int, 40)
	for i := range refuse {
		refuse[i] = 2 * (39 - i)
	}
	for call := range 81 {
		k := kernelOf("w0 .", "x.", call, refuse...)
		if call%2 == 0 && call < 80 {
			checkMapNew(t, k, 1, after(k, k.Machine), false)
		} else {
			checkMapNew(t, k, 1, after(k, settled(k.Machine, 1, entryOf(2, 1))), true)
		}
	}
}

// Only counted calls move on to the next number: what lies between two of them cannot use up a refusal.
func TestCallsThatAreNotCounted(t *testing.T) {
	k, _ := impl.KernelNew(3, 3, []int{2})
	k, first := impl.KMapNew(k, 0)
	k, second := impl.KMapNew(k, 1)
	k, copies := impl.KCopy(k, 0, 1, []int{2})
	k, noCopy := impl.KCopy(k, 0, 2, []int{2})
	k, unmaps := impl.KUnmap(k, 1)
	k, noUnmap := impl.KUnmap(k, 1)
	if !first || !second || !copies || noCopy || !unmaps || noUnmap || k.Calls != 2 {
		t.Error("before the refused call:", first, second, copies, noCopy, unmaps, noUnmap, k.Calls)
	}
	k, refused := impl.KMapNew(k, 1)
	k, third := impl.KMapNew(k, 1)
	if refused || !third || k.Calls != 4 || impl.UsedFrames(k.Machine.Frames) != 2 {
		t.Error("after the refused call:", refused, third, k.Calls)
	}
}

// Slices of an argument may share memory; those of a result do not, so that each frame is given back alone.
func TestKernelWhoseSlicesShareMemory(t *testing.T) {
	fives := slices.Repeat([]int{5}, 16)
	shared := slices.Clone(fives)
	frames := impl.Frames{Cells: [][]int{shared, shared}, Used: []bool{true, true}}
	k := impl.Kernel{Machine: impl.Machine{Frames: frames, Table: tableOf("w0 r1")}, Calls: 3, Refuse: shared}
	got, ok := impl.KCopy(k, 0, 1, shared)
	if !ok || !sameKernel(got, k) || !apart(got.Machine.Frames) || !slices.Equal(got.Refuse, fives) {
		t.Error("after the copy:", got, ok)
	}
	got, ok = impl.KUnmap(k, 0)
	cells := got.Machine.Frames.Cells
	if !ok || !slices.Equal(cells[0], make([]int, 16)) || !slices.Equal(cells[1], fives) || !slices.Equal(got.Refuse, fives) {
		t.Error("after a page is unmapped:", got, ok)
	}
	if !slices.Equal(shared, fives) {
		t.Error("the shared memory has changed:", shared)
	}
}

// modelFrame is a frame of the model below; pages on the same frame have the same pointer.
type modelFrame [16]int

type modelPage struct {
	mode  int
	frame *modelFrame
}

// kernelModel is a plain kernel: its frames have no numbers, and one without a page is simply not there any more.
type kernelModel struct {
	pages  []modelPage
	frames int
	calls  int
	refuse map[int]bool
}

func (m *kernelModel) used() int {
	seen := map[*modelFrame]bool{}
	for _, p := range m.pages {
		if p.frame != nil {
			seen[p.frame] = true
		}
	}
	return len(seen)
}

func (m *kernelModel) at(page int) modelPage {
	if page < 0 || page >= len(m.pages) {
		return modelPage{}
	}
	return m.pages[page]
}

func (m *kernelModel) granted() bool {
	m.calls++
	return !m.refuse[m.calls-1]
}

func (m *kernelModel) mapNew(page int) bool {
	if !m.granted() || page < 0 || page >= len(m.pages) || m.at(page).frame != nil || m.used() == m.frames {
		return false
	}
	m.pages[page] = modelPage{mode: 2, frame: &modelFrame{}}
	return true
}

func (m *kernelModel) mapOn(page int, other int) bool {
	if !m.granted() || page == other || m.at(page).frame == nil || m.at(other).frame == nil {
		return false
	}
	m.pages[page] = modelPage{mode: 2, frame: m.at(other).frame}
	return true
}

func (m *kernelModel) protect(page int, mode int) bool {
	if !m.granted() || m.at(page).frame == nil || mode < 1 || mode > 2 {
		return false
	}
	m.pages[page].mode = mode
	return true
}

func (m *kernelModel) unmap(page int) bool {
	if m.at(page).frame == nil {
		return false
	}
	m.pages[page] = modelPage{}
	return true
}

func (m *kernelModel) copy(from int, to int, at int) bool {
	if m.at(from).frame == nil || m.at(to).frame == nil || at < 0 || at > 15 {
		return false
	}
	m.at(to).frame[at] = m.at(from).frame[at]
	return true
}

// store writes a value to a page, whatever its mode is, in the kernel and in the model.
func (m *kernelModel) store(k impl.Kernel, page int, at int, v int) impl.Kernel {
	if p := m.at(page); p.frame != nil {
		p.frame[at] = v
		k.Machine.Frames, _ = impl.FrameWrite(k.Machine.Frames, k.Machine.Table.Entries[page].Frame, at, v)
	}
	return k
}

// same reports whether k has the calls, mappings, modes and cells of the model, with no used frame without a page.
func (m *kernelModel) same(k impl.Kernel) bool {
	if !impl.KernelOk(k) || k.Calls != m.calls || impl.UsedFrames(k.Machine.Frames) != m.used() {
		return false
	}
	for page, p := range m.pages {
		e := k.Machine.Table.Entries[page]
		if e.Mode != p.mode || (p.frame == nil) != (e.Mode == 0) {
			return false
		}
		if p.frame != nil && !slices.Equal(k.Machine.Frames.Cells[e.Frame], p.frame[:]) {
			return false
		}
		for other, q := range m.pages {
			if p.frame != nil && q.frame != nil && (p.frame == q.frame) != (e.Frame == k.Machine.Table.Entries[other].Frame) {
				return false
			}
		}
	}
	return true
}

// step makes the call that a seed chooses, on the kernel and on the model, and returns both results.
func (m *kernelModel) step(k impl.Kernel, seed int) (impl.Kernel, bool, bool) {
	page, other, last := seed>>14%(len(m.pages)+2)-1, seed>>18%(len(m.pages)+2)-1, seed>>22%19-1
	switch seed >> 10 % 11 {
	case 0, 1, 2, 3:
		next, ok := impl.KMapNew(k, page)
		return next, ok, m.mapNew(page)
	case 4, 5:
		next, ok := impl.KMapOn(k, page, other)
		return next, ok, m.mapOn(page, other)
	case 6:
		next, ok := impl.KProtect(k, page, last%4)
		return next, ok, m.protect(page, last%4)
	case 7, 8:
		next, ok := impl.KUnmap(k, page)
		return next, ok, m.unmap(page)
	case 9:
		next, ok := impl.KCopy(k, page, other, []int{last})
		return next, ok, m.copy(page, other, last)
	}
	return m.store(k, page, (last+16)%16, seed%1000), true, true
}

// In a walk of calls, granted and refused, no used frame is ever without a page, and all is as in the model.
func TestKernelWalk(t *testing.T) {
	refuse, refused := []int{}, map[int]bool{}
	for i := range 40 {
		refuse = append(refuse, i*53%701)
		refused[i*53%701] = true
	}
	for _, n := range [][2]int{{6, 4}, {9, 3}, {3, 5}, {32, 32}} {
		k, _ := impl.KernelNew(n[0], n[1], refuse)
		m := &kernelModel{pages: make([]modelPage, n[0]), frames: n[1], refuse: refused}
		seed := 11 * n[0]
		for step := range 2000 {
			seed = seedAfter(seed)
			next, got, want := m.step(k, seed)
			if got != want || !m.same(next) || !slices.Equal(next.Refuse, refuse) {
				t.Fatalf("step %d with %v pages and frames: the result is %v, want %v; the kernel is %v", step, n, got, want, next)
			}
			k = next
		}
	}
}
