package tests

import (
	"maps"
	"math"
	"slices"
	"strconv"
	"testing"
	"testing/synctest"

	"loop.example/g00978/impl"
)

// writerOf builds a writer of any numbers.
func writerOf(addr int, value int, done bool, waits int) impl.Writer {
	return impl.Writer{Addr: addr, Value: value, Done: done, Waits: waits}
}

// noWriter is what the tests put where no function may look or write.
var noWriter = writerOf(beyond, beyond, false, -beyond)

// roomyWriters returns a list that equals list and has spare capacity behind it, filled with writers that wait.
func roomyWriters(list []impl.Writer) []impl.Writer {
	return append(slices.Clone(list), noWriter, noWriter)[:len(list)]
}

// untouchedWriters reports whether a list that roomyWriters returned equals list still, with the same behind it.
func untouchedWriters(roomy []impl.Writer, list []impl.Writer) bool {
	return slices.Equal(roomy, list) && slices.Equal(roomy[len(roomy):cap(roomy)][:2], []impl.Writer{noWriter, noWriter})
}

func scribbleWriters(list []impl.Writer) {
	for i := range list[:cap(list)] {
		list[:cap(list)][i] = writerOf(2*beyond, 2*beyond, true, 2*beyond)
	}
}

func checkWriterStep(t *testing.T, k impl.Kernel, w impl.Writer, wantKernel impl.Kernel, want impl.Writer) {
	t.Helper()
	checkCall(t, "WriterStep", k, wantKernel, true, func(k impl.Kernel) (impl.Kernel, bool) {
		kernel, got := impl.WriterStep(k, w)
		if got != want {
			t.Errorf("WriterStep of %v on %v: the writer is %v, want %v", w, k, got, want)
		}
		return kernel, true
	})
}

// scene is what Interleave and Finish get and return.
type scene struct {
	kernel impl.Kernel
	job    impl.Job
	list   []impl.Writer
}

// writersCall is Interleave with some order, or Finish.
type writersCall func(impl.Kernel, impl.Job, []impl.Writer) (impl.Kernel, impl.Job, []impl.Writer)

func checkWritersCall(t *testing.T, name string, s scene, want scene, call writersCall) {
	t.Helper()
	checkJobCall(t, name, s.kernel, s.job, want.kernel, want.job, func(k impl.Kernel, j impl.Job) (impl.Kernel, impl.Job) {
		argument := roomyWriters(s.list)
		kernel, job, got := call(k, j, argument)
		if !slices.Equal(got, want.list) {
			t.Errorf("%s of %v: the writers are %v, want %v", name, s, got, want.list)
		}
		if !untouchedWriters(argument, s.list) {
			t.Errorf("%s of %v has changed the writers", name, s)
		}
		scribbleWriters(got)
		if !untouchedWriters(argument, s.list) {
			t.Errorf("%s of %v: the writers of the result share memory with the argument", name, s)
		}
		return kernel, job
	})
}

func checkInterleave(t *testing.T, s scene, order []int, want scene) {
	t.Helper()
	argument := roomyList(order)
	name := "Interleave in an order of " + strconv.Itoa(len(order))
	checkWritersCall(t, name, s, want, func(k impl.Kernel, j impl.Job, list []impl.Writer) (impl.Kernel, impl.Job, []impl.Writer) {
		return impl.Interleave(k, j, list, argument)
	})
	if !untouchedList(argument, order) {
		t.Errorf("%s: the order %v has changed or shares memory with the result", name, order)
	}
}

func checkFinish(t *testing.T, s scene, want scene) {
	t.Helper()
	checkWritersCall(t, "Finish", s, want, impl.Finish)
}

func checkWaiting(t *testing.T, list []impl.Writer, want int) {
	t.Helper()
	argument := roomyWriters(list)
	if got := impl.WaitingWriters(argument); got != want {
		t.Errorf("WaitingWriters(%v) = %d, want %d", list, got, want)
	}
	if !untouchedWriters(argument, list) {
		t.Errorf("WaitingWriters has changed %v", list)
	}
}

// written returns k with one cell of a frame set to v.
func written(k impl.Kernel, frame int, at int, v int) impl.Kernel {
	k.Machine = settled(k.Machine, 0, entryAt(k.Machine, 0))
	withCell(k.Machine.Frames, frame, at, v)
	return k
}

// writeModel returns what a step leaves of a writer.
func writeModel(k impl.Kernel, w impl.Writer) (impl.Kernel, impl.Writer) {
	if w.Done || !impl.KernelOk(k) {
		return k, w
	}
	e := unmapped
	if w.Addr >= 0 {
		e = entryAt(k.Machine, w.Addr/16)
	}
	if e.Mode == 1 {
		return k, writerOf(w.Addr, w.Value, false, w.Waits+1)
	}
	if e.Mode == 2 && w.Value >= 0 && w.Value <= 999 {
		k = written(k, e.Frame, w.Addr%16, w.Value)
	}
	return k, writerOf(w.Addr, w.Value, true, w.Waits)
}

// stuck reports whether a job cannot be performed at all.
func stuck(k impl.Kernel, j impl.Job) bool {
	keep, move := entryAt(k.Machine, j.Plan.Keep), entryAt(k.Machine, j.Plan.Move)
	return !impl.KernelOk(k) || !impl.JobOk(j) || keep.Mode == 0 || move.Mode == 0 || keep.Frame == move.Frame || k.Calls == 100000
}

// turned returns what one element of an order leaves.
func (s scene) turned(turn int) scene {
	switch {
	case turn == -1 && !stuck(s.kernel, s.job):
		s.kernel, s.job = stepModel(s.kernel, s.job)
	case turn >= 0 && turn < len(s.list):
		s.list = slices.Clone(s.list)
		s.kernel, s.list[turn] = writeModel(s.kernel, s.list[turn])
	}
	return s
}

func (s scene) interleaved(order []int) scene {
	for _, turn := range order {
		s = s.turned(turn)
	}
	return s
}

func (s scene) finished() scene {
	if !stuck(s.kernel, s.job) {
		s.kernel, s.job = runModel(s.kernel, s.job, 200)
	}
	for i := range s.list {
		s = s.turned(i)
	}
	return s
}

// ordersOf are all orders of a length with the given elements.
func ordersOf(length int, elements []int) [][]int {
	if length == 0 {
		return [][]int{{}}
	}
	list := [][]int{}
	for _, shorter := range ordersOf(length-1, elements) {
		for _, turn := range elements {
			list = append(list, append(slices.Clone(shorter), turn))
		}
	}
	return list
}

func steps(n int) []int {
	return slices.Repeat([]int{-1}, n)
}

// someWaits are numbers of tries, with those that no writer reaches.
func someWaits() []int {
	return []int{0, 1, 2, 7, 200, -1, -2, math.MinInt, 1 << 32, math.MaxInt - 1}
}

// Page 0 is on frame 3, page 2 on frame 0, for reading only, and page 3 on frame 1. No pages are at 16 to 31 and behind 63.
func TestWriterStep(t *testing.T) {
	cases := []struct {
		addr, value, waits int
		frame, at          int
		done               bool
		waited             int
	}{
		{0, 5, 0, 3, 0, true, 0},
		{7, 0, 0, 3, 7, true, 0},
		{14, 999, 0, 3, 14, true, 0},
		{15, 998, 0, 3, 15, true, 0},
		{48, 1, 0, 1, 0, true, 0},
		{63, 0, 0, 1, 15, true, 0},
		{63, 999, 4, 1, 15, true, 4},
		{0, 5, 1, 3, 0, true, 1},
		{0, -1, 0, -1, 0, true, 0},
		{15, 1000, 0, -1, 0, true, 0},
		{48, -1, 3, -1, 0, true, 3},
		{63, 1000, 1, -1, 0, true, 1},
		{32, 5, 0, -1, 0, false, 1},
		{47, 999, 0, -1, 0, false, 1},
		{40, 0, 1, -1, 0, false, 2},
		{32, 5, 9, -1, 0, false, 10},
		{32, -1, 0, -1, 0, false, 1},
		{47, 1000, 2, -1, 0, false, 3},
		{16, 5, 0, -1, 0, true, 0},
		{31, 5, 2, -1, 0, true, 2},
		{16, -1, 0, -1, 0, true, 0},
		{64, 5, 0, -1, 0, true, 0},
		{79, 1000, 5, -1, 0, true, 5},
		{511, 5, 0, -1, 0, true, 0},
		{512, 5, 0, -1, 0, true, 0},
		{-1, 5, 0, -1, 0, true, 0},
		{-15, 5, 0, -1, 0, true, 0},
		{-16, 0, 1, -1, 0, true, 1},
		{-33, 5, 0, -1, 0, true, 0},
		{math.MinInt, 5, 0, -1, 0, true, 0},
		{math.MaxInt, 5, 0, -1, 0, true, 0},
	}
	for _, c := range cases {
		k := kernelOf("w3 . r0 w1", "xx.x", 6, 8, 6)
		want := kernelOf("w3 . r0 w1", "xx.x", 6, 8, 6)
		if c.frame >= 0 {
			withCell(want.Machine.Frames, c.frame, c.at, c.value)
		}
		checkWriterStep(t, k, writerOf(c.addr, c.value, false, c.waits), want, writerOf(c.addr, c.value, c.done, c.waited))
		checkWriterStep(t, k, writerOf(c.addr, c.value, true, c.waits), k, writerOf(c.addr, c.value, true, c.waits))
	}
}

// All valid machines of three pages and two frames, with all addresses, for a kernel that grants its next call and for one that refuses it, which does not matter to a write.
func TestWriterStepOnSmallKernels(t *testing.T) {
	for i, c := range kernelsOfThree() {
		for addr := -1; addr <= 48; addr++ {
			for _, value := range []int{-1, 0, 999, 1000} {
				w := writerOf(addr, value, false, (i+addr)%3)
				wantKernel, want := writeModel(c.kernel, w)
				checkWriterStep(t, c.kernel, w, wantKernel, want)
			}
		}
	}
}

func TestWriterStepOfEachNumber(t *testing.T) {
	values := append(badValues(), 0, 1, 7, 500, 998, 999)
	for _, calls := range []int{0, 99999, 100000} {
		k := kernelOf("w3 . r0 w1", "xx.x", calls, calls)
		addresses := append(noAddresses(4), 0, 1, 15, 16, 31, 32, 33, 47, 48, 62, 63)
		for _, addr := range addresses {
			for _, value := range values {
				for _, waits := range someWaits() {
					w := writerOf(addr, value, false, waits)
					wantKernel, want := writeModel(k, w)
					if got, after := impl.WriterStep(k, w); after != want || !sameKernel(got, wantKernel) {
						t.Errorf("WriterStep of %v on %v: %v, %v", w, k, got, after)
					}
					done := writerOf(addr, value, true, waits)
					if got, after := impl.WriterStep(k, done); after != done || !sameKernel(got, k) {
						t.Errorf("WriterStep of %v on %v: %v, %v", done, k, got, after)
					}
				}
			}
		}
	}
}

// On a kernel that is not valid, no write is tried, so that it is not given up either.
func TestWriterStepOfInvalidKernels(t *testing.T) {
	for _, k := range badKernels() {
		for _, addr := range []int{0, 15, 16, 32, 63, 64, -1, math.MaxInt} {
			for _, value := range []int{-1, 0, 999, 1000} {
				for _, waits := range []int{0, 3} {
					w, done := writerOf(addr, value, false, waits), writerOf(addr, value, true, waits)
					checkWriterStep(t, k, w, k, w)
					checkWriterStep(t, k, done, k, done)
				}
			}
		}
	}
}

// What is written to one page can be read at each page on its frame, and cannot be written at one that is for reading only.
func TestWriterStepOfPagesOnOneFrame(t *testing.T) {
	k := kernelOf("w2 r1 w0 r2 w2", "xxx", 0)
	k, w := impl.WriterStep(k, writerOf(69, 8, false, 0))
	for _, addr := range []int{5, 53, 69} {
		if v, fault := impl.Load(k.Machine, addr); v != 8 || fault != 0 || !w.Done {
			t.Errorf("the cell at %d is %d with fault %d after %v", addr, v, fault, w)
		}
	}
	checkWriterStep(t, k, writerOf(53, 9, false, 0), k, writerOf(53, 9, false, 1))
}

// Two writers of one cell: the one that is performed last determines the cell.
func TestWritersOfOneCell(t *testing.T) {
	k := kernelOf("w0 w1", "xx", 0)
	first, second := writerOf(28, 4, false, 0), writerOf(28, 6, false, 0)
	s := scene{k, jobOf(planOf(0, 1, 12), 0, 0), []impl.Writer{first, second}}
	done := []impl.Writer{writerOf(28, 4, true, 0), writerOf(28, 6, true, 0)}
	checkInterleave(t, s, []int{0, 1}, scene{written(k, 1, 12, 6), s.job, done})
	checkInterleave(t, s, []int{1, 0}, scene{written(k, 1, 12, 4), s.job, done})
	checkInterleave(t, s, []int{1, 0, 1}, scene{written(k, 1, 12, 4), s.job, done})
	checkInterleave(t, s, []int{0, 0, 0}, scene{written(k, 1, 12, 4), s.job, []impl.Writer{done[0], second}})
	waited := []impl.Writer{writerOf(28, 4, true, 0), writerOf(28, 6, false, 2)}
	protected := kernelOf("w0 r1", "xx", 1)
	checkInterleave(t, s, []int{0, -1, 1, 0, 1}, scene{written(protected, 1, 12, 4), jobOf(s.job.Plan, 1, 0), waited})
}

func TestWaitingWriters(t *testing.T) {
	checkWaiting(t, nil, 0)
	checkWaiting(t, []impl.Writer{}, 0)
	checkWaiting(t, []impl.Writer{{}}, 0)
	for _, waits := range append(someWaits(), math.MaxInt) {
		want := 0
		if waits > 0 {
			want = 1
		}
		for _, addr := range []int{0, 28, -1, math.MaxInt} {
			for _, value := range []int{0, 5, -1, 1000} {
				checkWaiting(t, []impl.Writer{writerOf(addr, value, false, waits)}, want)
				checkWaiting(t, []impl.Writer{writerOf(addr, value, true, waits)}, 0)
			}
		}
	}
	checkWaiting(t, []impl.Writer{writerOf(1, 2, true, 3), writerOf(1, 2, false, 0), writerOf(1, 2, false, -4)}, 0)
	checkWaiting(t, slices.Repeat([]impl.Writer{writerOf(1, 2, false, 5)}, 1000), 1000)
}

// All lists of up to four writers that differ in Done and Waits.
func TestWaitingWritersOfAllLists(t *testing.T) {
	waits := []int{-1, 0, 1, 9}
	for length := range 5 {
		for _, kinds := range ordersOf(length, cellsFrom(0, 7)) {
			list, want := []impl.Writer{}, 0
			for i, kind := range kinds {
				list = append(list, writerOf(i, 5, kind >= 4, waits[kind%4]))
				if kind == 2 || kind == 3 {
					want++
				}
			}
			checkWaiting(t, list, want)
		}
	}
}

// someScenes are jobs and writers in several states.
func someScenes() []scene {
	pair := []impl.Writer{writerOf(50, 7, false, 0), writerOf(5, 8, false, 0)}
	mixed := []impl.Writer{writerOf(57, 1, false, 2), writerOf(50, 2, true, 1), writerOf(32, 3, false, 0)}
	wrong := []impl.Writer{writerOf(16, 1, false, 0), writerOf(50, 1000, false, 0)}
	free, shared := kernelOf("w3 . r0 w1", "xx.x", 6, 7), kernelOf("w1 . r0 w1", "xx", 0)
	return []scene{
		{free, jobOf(planOf(0, 3, 2), 0, 0), pair},
		{kernelOf("w3 . r0 w1", "xx.x", 6), jobOf(planOf(0, 3), 0, 0), mixed},
		{kernelOf("w3 . r0 r1", "xx.x", 6, 6, 7), jobOf(planOf(0, 3, 2, 9), 2, 2), pair},
		{kernelOf("w3 . r0 r1", "xx.x", 6), jobOf(planOf(0, 3, 2, 9), 3, 1), wrong},
		{free, jobOf(planOf(3, 2, 1, 2), 1, 1), mixed},
		{free, jobOf(planOf(0, 3, 2), 4, 1), pair},
		{free, jobOf(planOf(0, 1, 2), 0, 0), wrong},
		{free, jobOf(planOf(0, 0, 2), 0, 0), pair},
		{free, jobOf(planOf(0, 3, 2), 6, 0), mixed},
		{shared, jobOf(planOf(0, 3, 2), 0, 0), pair},
		{kernelOf("w3 . r0 w1", "xx.x", 100000), jobOf(planOf(0, 3, 2), 0, 0), mixed},
		{kernelOf("w3 . r0 w1", "xx.x", 99999), jobOf(planOf(0, 3, 2), 0, 0), pair},
		{kernelOf("w3 . r0 w1", "xx.x", 100001), jobOf(planOf(0, 3, 2), 0, 0), pair},
		{impl.Kernel{}, impl.Job{}, wrong},
		{free, jobOf(planOf(0, 3, 2), 0, 0), nil},
	}
}

// All orders of up to four elements, with -2 and with indices of up to one behind the last writer.
func TestInterleaveInAllOrders(t *testing.T) {
	for _, s := range someScenes() {
		for length := range 5 {
			for _, order := range ordersOf(length, cellsFrom(-2, len(s.list))) {
				checkInterleave(t, s, order, s.interleaved(order))
			}
		}
	}
}

// Elements that stand for no step, alone and between others.
func TestInterleaveSkips(t *testing.T) {
	bad := append(noIndexes(), 2, 3, 199, 200, 201)
	bad = slices.DeleteFunc(bad, func(turn int) bool { return turn == -1 })
	for _, s := range someScenes() {
		s.list = s.list[:min(2, len(s.list))]
		for _, turn := range bad {
			checkInterleave(t, s, []int{turn}, s)
			checkInterleave(t, s, []int{turn, turn, turn}, s)
			checkInterleave(t, s, []int{turn, -1, turn, 1, turn}, s.interleaved([]int{-1, 1}))
		}
		checkInterleave(t, s, bad, s)
		checkInterleave(t, s, nil, s)
		checkInterleave(t, s, []int{}, s)
		s.list = nil
		checkInterleave(t, s, []int{0, -2, 1}, s)
		checkInterleave(t, s, []int{0, -1, 1, -1, 0}, s.interleaved([]int{-1, -1}))
	}
}

// The limit is on the elements, also on those that are skipped, and a longer order is not performed in part.
func TestInterleaveInLongOrders(t *testing.T) {
	for _, s := range someScenes() {
		for _, turn := range []int{-2, -1, 0, 1, 2, math.MaxInt} {
			for _, length := range []int{199, 200, 201, 202, 400, 1000} {
				order := slices.Repeat([]int{turn}, length)
				others := []int{}
				for i := range length {
					others = append(others, i*i%5-2)
				}
				last := append(slices.Repeat([]int{turn}, length-2), -1, 0)
				for _, order := range [][]int{order, others, last} {
					want := s
					if length <= 200 {
						want = s.interleaved(order)
					}
					checkInterleave(t, s, order, want)
				}
			}
		}
	}
}

// The list of writers has no limit: the order names the first ones, the last ones, or each of them.
func TestInterleaveOfManyWriters(t *testing.T) {
	for _, n := range []int{200, 201, 300} {
		s := scene{kernelOf("w3 . r0 w1", "xx.x", 6), jobOf(planOf(0, 3, 2), 0, 0), nil}
		for i := range n {
			s.list = append(s.list, writerOf(i%80-8, i%999, false, i%4))
		}
		for _, order := range [][]int{cellsFrom(0, 199), cellsFrom(n-200, n-1), cellsFrom(n-100, n+50), append(cellsFrom(-2, 190), n-1, n)} {
			checkInterleave(t, s, order, s.interleaved(order))
		}
		checkInterleave(t, s, cellsFrom(0, 200), s)
		checkFinish(t, s, s.finished())
	}
}

func TestInterleaveOfInvalidKernels(t *testing.T) {
	list := []impl.Writer{writerOf(0, 5, false, 0), writerOf(32, 5, false, 1), writerOf(16, 5, true, 2), writerOf(-1, 1000, false, 3)}
	for _, k := range badKernels() {
		for phase := range 7 {
			s := scene{k, jobOf(planOf(0, 3, 2, 9), phase, 1), list}
			checkInterleave(t, s, []int{-1, 0, 1, -1, 2, 3, 4, -1, 0}, s)
			checkInterleave(t, s, steps(201), s)
			checkFinish(t, s, s)
		}
	}
}

// A job that is not valid takes no steps, which does not keep the writers from theirs.
func TestInterleaveOfInvalidJobs(t *testing.T) {
	k := kernelOf("w3 . r0 w1", "xx.x", 3, 8)
	list := []impl.Writer{writerOf(0, 5, false, 0), writerOf(33, 6, false, 1), writerOf(63, 7, false, 2), writerOf(16, 8, false, 3)}
	done := []impl.Writer{writerOf(0, 5, true, 0), writerOf(33, 6, false, 2), writerOf(63, 7, true, 2), writerOf(16, 8, true, 3)}
	left := written(written(k, 3, 0, 5), 1, 15, 7)
	for _, j := range badJobs() {
		checkInterleave(t, scene{k, j, list}, []int{-1, 0, 1, -1, 2, 3, -1}, scene{left, j, done})
		checkInterleave(t, scene{k, j, list}, append(steps(200), 0), scene{k, j, list})
		checkFinish(t, scene{k, j, list}, scene{left, j, done})
	}
}

// An order in two parts has the same end as in one, wherever it is divided.
func TestInterleaveInParts(t *testing.T) {
	order := []int{0, -1, 1, -1, 0, 2, -1, -1, -2, 1, -1, 0, -1, 3, -1, -1, 2, 1, 0}
	for _, s := range someScenes() {
		want := s.interleaved(order)
		for cut := range len(order) + 1 {
			k, j, list := impl.Interleave(s.kernel, s.job, s.list, order[:cut])
			checkInterleave(t, scene{k, j, list}, order[cut:], want)
		}
	}
}

// The goroutines of a call end with it, so that none is left behind, for orders that are performed and for those that are rejected.
func TestInterleaveLeavesNoGoroutine(t *testing.T) {
	for _, s := range someScenes() {
		for _, length := range []int{0, 1, 2, 50, 199, 200, 201, 1000} {
			synctest.Test(t, func(t *testing.T) {
				for _, turn := range []int{-2, -1, 0, 1} {
					impl.Interleave(s.kernel, s.job, s.list, slices.Repeat([]int{turn}, length))
				}
			})
		}
	}
}

// An order can be changed as soon as the call has returned.
func TestOrderThatChangesAfterTheCall(t *testing.T) {
	order := []int{-1, 0, -1, 1, -1, 0, 1, -1, -1}
	used := slices.Clone(order)
	for _, s := range someScenes() {
		want := s.interleaved(order)
		for range 50 {
			copy(used, order)
			k, j, list := impl.Interleave(s.kernel, s.job, s.list, used)
			scribbleList(used)
			if !sameKernel(k, want.kernel) || !sameJob(j, want.job) || !slices.Equal(list, want.list) {
				t.Fatalf("Interleave of %v: %v, %v, %v", s, k, j, list)
			}
		}
	}
}

// withWrite returns a meshing whose cell of one page, which is in use, is v before its job begins.
func (m meshing) withWrite(page int, at int, v int) meshing {
	texts := [2][]int{slices.Clone(m.texts[0]), slices.Clone(m.texts[1])}
	if page == m.plan.Keep {
		texts[0][at] = v
	} else {
		texts[1][at] = v
	}
	return meshing{plan: m.plan, texts: texts, shared: m.shared}
}

// writtenAfter returns the kernel at the end of a whole job with a write to a cell in use after some of its steps, and whether the write has to wait.
func (m meshing) writtenAfter(c course, steps int, refuse []int, page int, at int, v int) (impl.Kernel, bool) {
	then, end := c.after(steps), c.after(c.steps())
	switch {
	case page == m.plan.Keep || then.mode == 2 && !then.joined:
		return m.withWrite(page, at, v).kernel(end, refuse), false
	case then.joined:
		return written(m.kernel(end, refuse), 2, at, v), false
	}
	return m.kernel(end, refuse), true
}

// checkWriteAfter checks a whole job with a write after some of its steps, and that the write is made at last if it had to wait.
func checkWriteAfter(t *testing.T, m meshing, c course, before int, page int, at int) {
	t.Helper()
	refuse, first, end := c.refusals(7), c.after(0), c.after(c.steps())
	addr, value := 16*page+at, 500+at
	s := scene{m.kernel(first, refuse), m.job(first), []impl.Writer{writerOf(addr, value, false, 0)}}
	order := append(append(steps(before), 0), steps(c.steps()-before)...)
	k, waits := m.writtenAfter(c, before, refuse, page, at, value)
	want := scene{k, m.job(end), []impl.Writer{writerOf(addr, value, true, 0)}}
	if waits {
		want.list = []impl.Writer{writerOf(addr, value, false, 1)}
	}
	checkInterleave(t, s, order, want)
	if waits {
		frame := 0
		if end.joined {
			frame = 2
		}
		checkFinish(t, want, scene{written(k, frame, at, value), m.job(end), []impl.Writer{writerOf(addr, value, true, 1)}})
	} else {
		checkFinish(t, want, want)
	}
}

// A write before the protection, at each step until the job is over, and after it, whatever is refused: to the first and the last cell that is copied, and to one of Keep.
func TestWriteAtEachStep(t *testing.T) {
	for _, pages := range somePlanPages()[:3] {
		for _, cells := range [][]int{nil, {0}, {15}, {3, 12}, {0, 7, 15}, cellsFrom(1, 15), cellsFrom(0, 15)} {
			for _, m := range meshings(pages, cells) {
				for _, c := range courses(len(cells)) {
					if c.unlocked > 5 {
						continue
					}
					for before := range c.steps() + 1 {
						if len(cells) > 0 {
							checkWriteAfter(t, m, c, before, pages[1], cells[0])
							checkWriteAfter(t, m, c, before, pages[1], cells[len(cells)-1])
						}
						for _, at := range []int{0, 13, 15} {
							if !slices.Contains(cells, at) {
								checkWriteAfter(t, m, c, before, pages[0], at)
							}
						}
					}
				}
			}
		}
	}
}

// race is a job and writers in the middle of some order, with what each cell in use has to be and how often each writer may still try.
type race struct {
	scene
	cells map[int]int
	tries []int
}

// raceOf starts a job and writers that may each try some times.
func raceOf(m meshing, c course, list []impl.Writer, tries int) race {
	start := scene{m.kernel(c.after(0), c.refusals(7)), m.job(c.after(0)), list}
	return race{start, m.inUse(), slices.Repeat([]int{tries}, len(list))}
}

// inUse returns the cells in use of both pages and of the page on frame 1, by address.
func (m meshing) inUse() map[int]int {
	third := 0
	for third == m.plan.Keep || third == m.plan.Move {
		third++
	}
	cells := map[int]int{}
	for at := range 16 {
		cells[16*m.plan.Keep+at] = m.texts[0][at]
		cells[16*third+at] = 100 + at
	}
	for _, at := range m.plan.Cells {
		delete(cells, 16*m.plan.Keep+at)
		cells[16*m.plan.Move+at] = m.texts[1][at]
	}
	return cells
}

func (s scene) over() bool {
	return s.job.Phase == 4 || s.job.Phase == 5
}

// checkCells checks that each cell in use can be loaded at its address.
func (r race) checkCells(t *testing.T) {
	t.Helper()
	for addr, want := range r.cells {
		if v, fault := impl.Load(r.kernel.Machine, addr); v != want || fault != 0 {
			t.Fatalf("the cell at %d is %d with fault %d, want %d: %v", addr, v, fault, want, r.scene)
		}
	}
}

// checkWrite checks what a turn has left of a writer: it waits only while its page is protected by the job, and otherwise its cell is written.
func (r *race) checkWrite(t *testing.T, before scene, i int) {
	t.Helper()
	w, page := before.list[i], before.list[i].Addr/16
	if entryAt(before.kernel.Machine, page).Mode == 2 {
		w.Done = true
		r.cells[w.Addr] = w.Value
	} else {
		w.Waits++
		if page != before.job.Plan.Move || !impl.JobActive(before.job) {
			t.Errorf("page %d is protected, but not by the job %v", page, before.job)
		}
	}
	want := slices.Clone(before.list)
	want[i] = w
	if !slices.Equal(r.list, want) {
		t.Fatalf("the writers are %v, want %v", r.list, want)
	}
}

// next returns the race after one more turn.
func (r race) next(t *testing.T, turn int) race {
	t.Helper()
	before := r.scene
	r.kernel, r.job, r.list = impl.Interleave(r.kernel, r.job, r.list, []int{turn})
	r.cells, r.tries = maps.Clone(r.cells), slices.Clone(r.tries)
	if turn >= 0 {
		r.tries[turn]--
		r.checkWrite(t, before, turn)
	}
	r.checkCells(t)
	return r
}

// checkEnd checks that, wherever the race is, Finish ends the job and makes all writes that are left, in order.
func (r race) checkEnd(t *testing.T) {
	t.Helper()
	r.cells = maps.Clone(r.cells)
	want := slices.Clone(r.list)
	for i, w := range r.list {
		if !w.Done {
			want[i].Done = true
			r.cells[w.Addr] = w.Value
		}
	}
	r.kernel, r.job, r.list = impl.Finish(r.kernel, r.job, r.list)
	r.checkCells(t)
	if !r.over() || !slices.Equal(r.list, want) || impl.WaitingWriters(r.list) != 0 {
		t.Fatalf("Finish leaves %v, and the writers should be %v", r.scene, want)
	}
}

// checkAllOrders goes on with each possible turn, and returns the number of turns. Turns that have no effect are left out.
func (r race) checkAllOrders(t *testing.T) int {
	t.Helper()
	r.checkEnd(t)
	turns := 0
	if !r.over() {
		turns += 1 + r.next(t, -1).checkAllOrders(t)
	}
	for i, w := range r.list {
		if !w.Done && r.tries[i] > 0 {
			turns += 1 + r.next(t, i).checkAllOrders(t)
		}
	}
	return turns
}

// Whatever the order of the steps and the refusals, no write to a cell in use is lost.
func TestNoWriteIsLost(t *testing.T) {
	cases := []struct {
		cells []int
		addrs []int
		tries int
	}{
		{[]int{4}, []int{36}, 4},
		{[]int{4}, []int{36, 36}, 2},
		{[]int{15}, []int{47, 16}, 2},
		{[]int{2, 9}, []int{34, 41}, 2},
		{[]int{0, 7}, []int{32, 17, 3}, 1},
		{nil, []int{16, 31}, 1},
	}
	for _, c := range cases {
		list := []impl.Writer{}
		for i, addr := range c.addrs {
			list = append(list, writerOf(addr, 990+3*i, false, 0))
		}
		for i, m := range meshings([2]int{1, 2}, c.cells) {
			for _, course := range courses(len(c.cells)) {
				if course.unlocked > 1 || course.unlocked == 1 && i == 1 {
					continue
				}
				turns := raceOf(m, course, list, c.tries).checkAllOrders(t)
				if turns < course.steps() {
					t.Errorf("only %d turns were checked", turns)
				}
			}
		}
	}
}

// A job that has used up the calls of its kernel leaves its page protected, so that a writer of it waits even after Finish. With calls to spare, both come to their end unless these are refused.
func TestWriterOfAPageThatStaysProtected(t *testing.T) {
	k := kernelOf("w3 . r0 w1", "xx.x", 99999)
	s := scene{k, jobOf(planOf(0, 3, 2), 0, 0), []impl.Writer{writerOf(50, 5, false, 0)}}
	protected := kernelOf("w3 . r0 r1", "xx.x", 100000)
	waiting := scene{protected, jobOf(planOf(0, 3, 2), 1, 0), []impl.Writer{writerOf(50, 5, false, 3)}}
	checkInterleave(t, s, []int{-1, 0, -1, 0, -1, 0}, waiting)
	checkFinish(t, waiting, scene{protected, waiting.job, []impl.Writer{writerOf(50, 5, false, 4)}})
	checkLeft := func(refuse []int, left impl.Kernel, phase int, next int, w impl.Writer) {
		t.Helper()
		left.Refuse = refuse
		start := scene{kernelOf("w3 . r0 r1", "xx.x", 99998, refuse...), waiting.job, waiting.list}
		checkFinish(t, start, scene{left, jobOf(planOf(0, 3, 2), phase, next), []impl.Writer{w}})
	}
	joined := written(kernelOf("w3 . r0 w3", "x..x", 99999), 3, 2, 5)
	checkLeft(nil, joined, impl.MsDone, 1, writerOf(50, 5, true, 3))
	undone := written(cleared(kernelOf("w3 . r0 w1", "xx.x", 100000), 3, 2), 1, 2, 5)
	checkLeft([]int{99998}, undone, impl.MsUndone, 0, writerOf(50, 5, true, 3))
	checkLeft([]int{99998, 99999}, cleared(protected, 3, 2), impl.MsBack, 0, writerOf(50, 5, false, 4))
}

// Finish of a whole job from each of its steps, with writers that have not tried, that wait, that are done, and without any.
func TestFinishFromEachStep(t *testing.T) {
	for _, cells := range [][]int{nil, {7}, {0, 5, 15}, cellsFrom(0, 15)} {
		for i, m := range meshings([2]int{9, 2}, cells) {
			list := []impl.Writer{
				writerOf(32, 501, false, 0), writerOf(47, 502, false, 3), writerOf(39, 503, true, 1), writerOf(144, 504, false, 0),
				writerOf(47, 505, false, -2), writerOf(32, 1000, false, 1), writerOf(512, 506, false, 0), writerOf(-1, 507, false, 2), writerOf(40, 0, false, 0),
			}
			for _, c := range courses(len(cells)) {
				if c.unlocked == 39 && i > 0 {
					continue
				}
				refuse, end := c.refusals(7), c.after(c.steps())
				for from := range c.steps() + 1 {
					s := scene{m.kernel(c.after(from), refuse), m.job(c.after(from)), nil}
					want := scene{m.kernel(end, refuse), m.job(end), nil}
					checkFinish(t, s, want)
					s.list, want.list = list, list
					for turn := range list {
						want = want.turned(turn)
					}
					checkFinish(t, s, want)
				}
			}
		}
	}
}

// Jobs in any state, also those that cannot be performed and those that are over, with writers in any state.
func TestFinishOfAnyState(t *testing.T) {
	for _, words := range []string{"w3 . r0 w1", "w3 . r0 r1", "r3 . w0 w1", "r3 w3 w0 r1", "w3 w0 w0 w1", "w3 w0 w1 r3"} {
		for _, refuse := range [][]int{nil, {3}, {4}, {3, 4}, {4, 5, 7}} {
			k := kernelOf(words, "xx.x", 3, refuse...)
			for _, p := range []impl.Plan{planOf(0, 3), planOf(3, 0, 0), planOf(0, 2, 2, 9), planOf(2, 1, 0, 14, 15), planOf(0, 31, 3)} {
				for _, j := range append(phasesAndNexts(p), jobOf(p, 6, 0), jobOf(p, -1, 0), jobOf(p, 0, -1)) {
					list := []impl.Writer{writerOf(0, 7, false, 0), writerOf(50, 8, false, 1), writerOf(34, 9, false, 0), writerOf(50, 10, true, 2), writerOf(16, 11, false, 3), writerOf(0, 12, false, 0)}
					for _, n := range []int{0, 1, 3, 6} {
						s := scene{k, j, list[:n]}
						checkFinish(t, s, s.finished())
					}
				}
			}
		}
	}
}

// One list may stand for the order, for the refused calls, for the cells of frames, and for those of the plan; no slices of the results share memory.
func TestInterleaveWhoseSlicesShareMemory(t *testing.T) {
	for _, length := range []int{0, 16} {
		shared := cellsFrom(0, 15)
		order := shared[:length]
		frames := impl.Frames{Cells: [][]int{shared, shared}, Used: []bool{true, true}}
		k := impl.Kernel{Machine: impl.Machine{Frames: frames, Table: tableOf("w0 w1")}, Calls: 20, Refuse: shared}
		j := jobOf(planOf(0, 1, shared...), 1, 4)
		j.Plan.Cells = shared
		list := []impl.Writer{writerOf(3, 0, false, 0), writerOf(19, 5, true, 0), writerOf(31, 15, false, 0)}
		for _, call := range []writersCall{impl.Finish, func(k impl.Kernel, j impl.Job, list []impl.Writer) (impl.Kernel, impl.Job, []impl.Writer) {
			return impl.Interleave(k, j, list, order)
		}} {
			gotKernel, gotJob, _ := call(k, j, list)
			if !apart(gotKernel.Machine.Frames) {
				t.Error("frames of the result share memory")
			}
			scribbleMachine(gotKernel.Machine)
			if !slices.Equal(gotKernel.Refuse, cellsFrom(0, 15)) || !slices.Equal(gotJob.Plan.Cells, cellsFrom(0, 15)) {
				t.Error("a frame of the result shares memory with another part of it")
			}
			scribbleList(gotKernel.Refuse)
			if !slices.Equal(gotJob.Plan.Cells, cellsFrom(0, 15)) {
				t.Error("Refuse and Cells share memory")
			}
			scribbleList(gotJob.Plan.Cells)
			if !slices.Equal(shared, cellsFrom(0, 15)) {
				t.Fatal("the shared memory has changed:", shared)
			}
		}
	}
}
