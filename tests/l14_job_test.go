package tests

import (
	"math"
	"slices"
	"strconv"
	"strings"
	"testing"

	"loop.example/g00978/impl"
)

// jobOf builds a job of any numbers, valid or not.
func jobOf(p impl.Plan, phase int, next int) impl.Job {
	return impl.Job{Plan: p, Phase: phase, Next: next}
}

func sameJob(a impl.Job, b impl.Job) bool {
	return samePlan(a.Plan, b.Plan) && a.Phase == b.Phase && a.Next == b.Next
}

// roomyJob returns a job that equals j and has numbers that are no cells in the spare capacity behind its plan.
func roomyJob(j impl.Job) impl.Job {
	return jobOf(roomyPlan(j.Plan), j.Phase, j.Next)
}

func untouchedJob(roomy impl.Job, j impl.Job) bool {
	return untouchedPlan(roomy.Plan, j.Plan) && roomy.Phase == j.Phase && roomy.Next == j.Next
}

// jobCall is JobStep, or JobRun with some number of steps.
type jobCall func(impl.Kernel, impl.Job) (impl.Kernel, impl.Job)

// checkJobCall makes a call on arguments with spare capacity and checks the results, that these share no memory with the arguments or with one another, and that the arguments stay as they were.
func checkJobCall(t *testing.T, name string, k impl.Kernel, j impl.Job, wantKernel impl.Kernel, wantJob impl.Job, call jobCall) {
	t.Helper()
	kernel, job := roomyKernel(k), roomyJob(j)
	untouched := func() bool { return untouchedKernel(kernel, k) && untouchedJob(job, j) }
	gotKernel, gotJob := call(kernel, job)
	if !sameKernel(gotKernel, wantKernel) {
		t.Errorf("%s of %v on %v: the kernel is %v, want %v", name, j, k, gotKernel, wantKernel)
	}
	if !sameJob(gotJob, wantJob) {
		t.Errorf("%s of %v on %v: the job is %v, want %v", name, j, k, gotJob, wantJob)
	}
	if !untouched() {
		t.Errorf("%s of %v on %v: an argument has changed", name, j, k)
	}
	if !apart(gotKernel.Machine.Frames) {
		t.Errorf("%s of %v on %v: frames of the result share memory", name, j, k)
	}
	scribbleMachine(gotKernel.Machine)
	if !slices.Equal(gotKernel.Refuse, wantKernel.Refuse) || !sameJob(gotJob, wantJob) {
		t.Errorf("%s of %v on %v: a frame of the result shares memory with another part of it", name, j, k)
	}
	scribbleList(gotKernel.Refuse)
	if !sameJob(gotJob, wantJob) {
		t.Errorf("%s of %v on %v: Refuse shares memory with the job of the result", name, j, k)
	}
	scribbleList(gotJob.Plan.Cells)
	if !untouched() {
		t.Errorf("%s of %v on %v: the result shares memory with an argument", name, j, k)
	}
}

func checkStep(t *testing.T, k impl.Kernel, j impl.Job, wantKernel impl.Kernel, wantJob impl.Job) {
	t.Helper()
	checkJobCall(t, "JobStep", k, j, wantKernel, wantJob, impl.JobStep)
}

func checkRun(t *testing.T, k impl.Kernel, j impl.Job, most int, wantKernel impl.Kernel, wantJob impl.Job) {
	t.Helper()
	checkJobCall(t, "JobRun("+strconv.Itoa(most)+")", k, j, wantKernel, wantJob, func(k impl.Kernel, j impl.Job) (impl.Kernel, impl.Job) {
		return impl.JobRun(k, j, most)
	})
}

// checkStuck checks that a job cannot be performed at all.
func checkStuck(t *testing.T, k impl.Kernel, j impl.Job) {
	t.Helper()
	checkStep(t, k, j, k, j)
	for _, most := range []int{0, 1, 2, 200} {
		checkRun(t, k, j, most, k, j)
	}
}

// checkJobOk also checks JobActive, which does not hold for a job that is not valid.
func checkJobOk(t *testing.T, j impl.Job, want bool) {
	t.Helper()
	argument := roomyJob(j)
	if got := impl.JobOk(argument); got != want {
		t.Errorf("JobOk(%v) is %v", j, got)
	}
	active := want && (j.Phase == 1 || j.Phase == 2 || j.Phase == 3)
	if got := impl.JobActive(argument); got != active {
		t.Errorf("JobActive(%v) is %v", j, got)
	}
	if !untouchedJob(argument, j) {
		t.Errorf("JobOk or JobActive has changed %v", j)
	}
}

// checkJobNew checks a new job, that the plan stays as it was, and that the job shares no memory with it.
func checkJobNew(t *testing.T, p impl.Plan, want impl.Job, made bool) {
	t.Helper()
	argument := roomyPlan(p)
	j, ok := impl.JobNew(argument)
	if !sameJob(j, want) || ok != made {
		t.Errorf("JobNew(%v) = %v, %v, want %v, %v", p, j, ok, want, made)
	}
	scribbleList(j.Plan.Cells)
	if !untouchedPlan(argument, p) {
		t.Errorf("JobNew has changed %v or shares memory with it", p)
	}
	if again, _ := impl.JobNew(argument); !sameJob(again, want) {
		t.Errorf("JobNew(%v) after its result was written over: %v", p, again)
	}
}

// withModes returns k with other modes of two pages.
func withModes(k impl.Kernel, page int, mode int, other int, otherMode int) impl.Kernel {
	k.Machine = settled(k.Machine, page, entryOf(mode, entryAt(k.Machine, page).Frame))
	k.Machine = settled(k.Machine, other, entryOf(otherMode, entryAt(k.Machine, other).Frame))
	return k
}

// cleared returns k with one cell of a frame set to 0.
func cleared(k impl.Kernel, frame int, at int) impl.Kernel {
	k.Machine = settled(k.Machine, 0, entryAt(k.Machine, 0))
	withCell(k.Machine.Frames, frame, at, 0)
	return k
}

// stepModel returns what a step leaves of a valid job on a kernel that takes calls and maps both pages to different frames.
func stepModel(k impl.Kernel, j impl.Job) (impl.Kernel, impl.Job) {
	keep, move := entryAt(k.Machine, j.Plan.Keep), entryAt(k.Machine, j.Plan.Move)
	granted := !slices.Contains(k.Refuse, k.Calls)
	switch {
	case j.Phase == 0 && granted:
		return after(k, settled(k.Machine, j.Plan.Move, entryOf(1, move.Frame))), jobOf(j.Plan, 1, j.Next)
	case j.Phase == 0:
		return after(k, k.Machine), jobOf(j.Plan, 5, j.Next)
	case j.Phase == 1 && j.Next < len(j.Plan.Cells):
		return copied(k, move.Frame, keep.Frame, []int{j.Plan.Cells[j.Next]}), jobOf(j.Plan, 1, j.Next+1)
	case j.Phase == 1:
		return k, jobOf(j.Plan, 2, j.Next)
	case j.Phase == 2 && granted:
		return after(k, settled(k.Machine, j.Plan.Move, entryOf(2, keep.Frame))), jobOf(j.Plan, 4, j.Next)
	case j.Phase == 2:
		return after(k, k.Machine), jobOf(j.Plan, 3, j.Next)
	case j.Phase == 3 && j.Next > 0 && keep.Mode == 2:
		return cleared(k, keep.Frame, j.Plan.Cells[j.Next-1]), jobOf(j.Plan, 3, j.Next-1)
	case j.Phase == 3 && j.Next > 0:
		return k, jobOf(j.Plan, 3, j.Next-1)
	case j.Phase == 3 && granted:
		return after(k, settled(k.Machine, j.Plan.Move, entryOf(2, move.Frame))), jobOf(j.Plan, 5, 0)
	case j.Phase == 3:
		return after(k, k.Machine), j
	}
	return k, j
}

// runModel repeats stepModel until the job is over, but not more than most times.
func runModel(k impl.Kernel, j impl.Job, most int) (impl.Kernel, impl.Job) {
	for step := 0; step < most && j.Phase != 4 && j.Phase != 5 && k.Calls < 100000; step++ {
		k, j = stepModel(k, j)
	}
	return k, j
}

// phasesAndNexts are all phases with each Next of a plan.
func phasesAndNexts(p impl.Plan) []impl.Job {
	list := []impl.Job{}
	for phase := range 6 {
		for next := range len(p.Cells) + 1 {
			list = append(list, jobOf(p, phase, next))
		}
	}
	return list
}

// badJobs are jobs that are not valid, nearly all of them for one reason only, with the pages 0 and 3 where the plan has valid ones.
func badJobs() []impl.Job {
	list := []impl.Job{{}, jobOf(planOf(0, 0, 5, 4), 6, -1)}
	for _, cells := range badCells() {
		for phase := range 6 {
			list = append(list, jobOf(planOf(0, 3, cells...), phase, 0), jobOf(planOf(3, 0, cells...), phase, len(cells)))
		}
	}
	for i, pages := range badPlanPages() {
		list = append(list, jobOf(planOf(pages[0], pages[1], 1, 2), i%6, i%3), jobOf(planOf(pages[0], pages[1]), i%6, 0))
	}
	for _, phase := range append(noIndexes(), 6, 7, 8, 257) {
		list = append(list, jobOf(planOf(0, 3, 1, 2), phase, 0), jobOf(planOf(3, 0, 1, 2), phase, 2), jobOf(planOf(0, 3), phase, 0))
	}
	for phase := range 6 {
		for _, next := range append(noIndexes(), 17, 20, 257) {
			list = append(list, jobOf(planOf(0, 3), phase, next), jobOf(planOf(0, 3, 1, 2), phase, next), jobOf(planOf(3, 0, cellsFrom(0, 15)...), phase, next))
		}
		list = append(list, jobOf(planOf(0, 3), phase, 1), jobOf(planOf(0, 3, 1, 2), phase, 3), jobOf(planOf(3, 0, 15), phase, 2))
	}
	return list
}

func TestPhases(t *testing.T) {
	if impl.MsProtect != 0 || impl.MsCopy != 1 || impl.MsRemap != 2 || impl.MsBack != 3 || impl.MsDone != 4 || impl.MsUndone != 5 {
		t.Error("the phases are", impl.MsProtect, impl.MsCopy, impl.MsRemap, impl.MsBack, impl.MsDone, impl.MsUndone)
	}
}

func TestJobNew(t *testing.T) {
	for _, pages := range somePlanPages() {
		for _, cells := range someCells() {
			p := planOf(pages[0], pages[1], cells...)
			checkJobNew(t, p, jobOf(p, 0, 0), true)
			if j, _ := impl.JobNew(p); !impl.JobOk(j) || impl.JobActive(j) {
				t.Errorf("JobNew(%v) is not valid, or active already", p)
			}
		}
	}
	for _, pages := range badPlanPages() {
		checkJobNew(t, planOf(pages[0], pages[1]), impl.Job{}, false)
		checkJobNew(t, planOf(pages[0], pages[1], 2, 9), impl.Job{}, false)
	}
	for _, cells := range badCells() {
		checkJobNew(t, planOf(0, 31, cells...), impl.Job{}, false)
		checkJobNew(t, planOf(2, 1, cells...), impl.Job{}, false)
	}
	checkJobNew(t, impl.Plan{}, impl.Job{}, false)
}

func TestJobOk(t *testing.T) {
	for _, pages := range [][2]int{{0, 1}, {31, 0}, {7, 30}} {
		for _, cells := range someCells() {
			for phase := -2; phase <= 7; phase++ {
				for next := -2; next <= len(cells)+2; next++ {
					want := phase >= 0 && phase <= 5 && next >= 0 && next <= len(cells)
					checkJobOk(t, jobOf(planOf(pages[0], pages[1], cells...), phase, next), want)
				}
			}
		}
	}
	for _, j := range badJobs() {
		checkJobOk(t, j, false)
	}
}

// The kernels before and after one step, written out, where the plan of the job copies the cells 2 and 9 of page 3, on frame 1, to page 0, on frame 3.
func TestJobStep(t *testing.T) {
	const protected, free, joined = "w3 . r0 r1", "w3 . r0 w1", "w3 . r0 w3"
	start := []int{300, 301, 302, 303, 304, 305, 306, 307, 308, 309, 310, 311, 312, 313, 314, 315}
	first := []int{300, 301, 102, 303, 304, 305, 306, 307, 308, 309, 310, 311, 312, 313, 314, 315}
	second := []int{300, 301, 302, 303, 304, 305, 306, 307, 308, 109, 310, 311, 312, 313, 314, 315}
	noFirst := []int{300, 301, 0, 303, 304, 305, 306, 307, 308, 309, 310, 311, 312, 313, 314, 315}
	noSecond := []int{300, 301, 302, 303, 304, 305, 306, 307, 308, 0, 310, 311, 312, 313, 314, 315}
	cases := []struct {
		words       string
		phase, next int
		refused     bool
		left        string
		keep        []int
		then, after int
		calls       int
	}{
		{free, impl.MsProtect, 0, false, protected, start, impl.MsCopy, 0, 1},
		{free, impl.MsProtect, 0, true, free, start, impl.MsUndone, 0, 1},
		{free, impl.MsProtect, 1, false, protected, start, impl.MsCopy, 1, 1},
		{free, impl.MsProtect, 2, true, free, start, impl.MsUndone, 2, 1},
		{protected, impl.MsProtect, 0, false, protected, start, impl.MsCopy, 0, 1},
		{protected, impl.MsProtect, 0, true, protected, start, impl.MsUndone, 0, 1},
		{protected, impl.MsCopy, 0, false, protected, first, impl.MsCopy, 1, 0},
		{protected, impl.MsCopy, 0, true, protected, first, impl.MsCopy, 1, 0},
		{protected, impl.MsCopy, 1, false, protected, second, impl.MsCopy, 2, 0},
		{protected, impl.MsCopy, 1, true, protected, second, impl.MsCopy, 2, 0},
		{protected, impl.MsCopy, 2, false, protected, start, impl.MsRemap, 2, 0},
		{protected, impl.MsCopy, 2, true, protected, start, impl.MsRemap, 2, 0},
		{free, impl.MsCopy, 0, false, free, first, impl.MsCopy, 1, 0},
		{"r3 . r0 r1", impl.MsCopy, 1, false, "r3 . r0 r1", second, impl.MsCopy, 2, 0},
		{protected, impl.MsRemap, 2, false, joined, start, impl.MsDone, 2, 1},
		{protected, impl.MsRemap, 2, true, protected, start, impl.MsBack, 2, 1},
		{protected, impl.MsRemap, 0, false, joined, start, impl.MsDone, 0, 1},
		{protected, impl.MsRemap, 1, true, protected, start, impl.MsBack, 1, 1},
		{free, impl.MsRemap, 2, false, joined, start, impl.MsDone, 2, 1},
		{"r3 . r0 r1", impl.MsRemap, 2, false, "r3 . r0 w3", start, impl.MsDone, 2, 1},
		{protected, impl.MsBack, 2, false, protected, noSecond, impl.MsBack, 1, 0},
		{protected, impl.MsBack, 2, true, protected, noSecond, impl.MsBack, 1, 0},
		{protected, impl.MsBack, 1, false, protected, noFirst, impl.MsBack, 0, 0},
		{protected, impl.MsBack, 1, true, protected, noFirst, impl.MsBack, 0, 0},
		{"r3 . r0 r1", impl.MsBack, 2, false, "r3 . r0 r1", start, impl.MsBack, 1, 0},
		{"r3 . r0 r1", impl.MsBack, 1, true, "r3 . r0 r1", start, impl.MsBack, 0, 0},
		{protected, impl.MsBack, 0, false, free, start, impl.MsUndone, 0, 1},
		{protected, impl.MsBack, 0, true, protected, start, impl.MsBack, 0, 1},
		{free, impl.MsBack, 0, false, free, start, impl.MsUndone, 0, 1},
		{protected, impl.MsDone, 2, false, protected, start, impl.MsDone, 2, 0},
		{protected, impl.MsDone, 0, true, protected, start, impl.MsDone, 0, 0},
		{protected, impl.MsUndone, 0, false, protected, start, impl.MsUndone, 0, 0},
		{protected, impl.MsUndone, 1, true, protected, start, impl.MsUndone, 1, 0},
	}
	for _, c := range cases {
		refuse := []int{30, 7, 5}
		if c.refused {
			refuse = []int{30, 6, 5}
		}
		k := kernelOf(c.words, "xx.x", 6, refuse...)
		want := kernelOf(c.left, "xx.x", 6+c.calls, refuse...)
		if c.then == impl.MsDone && c.calls == 1 {
			want = kernelOf(c.left, "x..x", 7, refuse...)
		}
		copy(want.Machine.Frames.Cells[3], c.keep)
		checkStep(t, k, jobOf(planOf(0, 3, 2, 9), c.phase, c.next), want, jobOf(planOf(0, 3, 2, 9), c.then, c.after))
	}
}

// All valid machines of three pages and two frames, with calls that are granted and refused, and with plans of pages that are not there too.
func TestJobStepOnSmallKernels(t *testing.T) {
	for _, c := range kernelsOfThree() {
		for keep := range 4 {
			for move := range 4 {
				if keep == move {
					continue
				}
				keepEntry, moveEntry := entryAt(c.kernel.Machine, keep), entryAt(c.kernel.Machine, move)
				steps := keepEntry.Mode != 0 && moveEntry.Mode != 0 && keepEntry.Frame != moveEntry.Frame
				for _, j := range append(phasesAndNexts(planOf(keep, move)), phasesAndNexts(planOf(keep, move, 0, 15))...) {
					if steps {
						wantKernel, wantJob := stepModel(c.kernel, j)
						checkStep(t, c.kernel, j, wantKernel, wantJob)
					} else {
						checkStep(t, c.kernel, j, c.kernel, j)
					}
				}
			}
		}
	}
}

// Each cell alone and each Next of plans with many cells, with both ends of the page.
func TestJobStepOfEachCell(t *testing.T) {
	lists := someCells()
	for at := range 16 {
		lists = append(lists, []int{at})
	}
	for _, cells := range lists {
		for _, modes := range [][2]int{{1, 1}, {1, 2}, {2, 1}, {2, 2}} {
			for _, refuse := range [][]int{nil, {4}, {5, 3}} {
				k := withModes(kernelOf("r1 w2 . w1 r3", ".xxx", 4, refuse...), 1, modes[0], 4, modes[1])
				for _, j := range append(phasesAndNexts(planOf(1, 4, cells...)), phasesAndNexts(planOf(4, 1, cells...))...) {
					wantKernel, wantJob := stepModel(k, j)
					checkStep(t, k, j, wantKernel, wantJob)
				}
			}
		}
	}
}

func TestJobsOfInvalidKernels(t *testing.T) {
	for _, k := range badKernels() {
		for _, p := range []impl.Plan{planOf(0, 3), planOf(0, 3, 2, 9), planOf(2, 0, 15), planOf(3, 31, 1)} {
			for _, j := range phasesAndNexts(p) {
				checkStuck(t, k, j)
			}
		}
	}
}

func TestInvalidJobs(t *testing.T) {
	k := kernelOf("w3 . r0 w1", "xx.x", 3, 8)
	for _, j := range badJobs() {
		checkStuck(t, k, j)
	}
	for _, bad := range badKernels() {
		checkStuck(t, bad, jobOf(planOf(0, 3, 2, 9), 6, 0))
		checkStuck(t, bad, impl.Job{})
	}
}

// A page that is not there or not mapped, in each place, and in both.
func TestJobsOfPagesThatAreNotMapped(t *testing.T) {
	for _, refuse := range [][]int{nil, {3}} {
		k := kernelOf("w3 . r0 w1 .", "xx.x", 3, refuse...)
		for _, bad := range []int{1, 4, 5, 6, 16, 30, 31} {
			for _, other := range []int{0, 2, 3, 1, 4, 5, 31} {
				if bad == other {
					continue
				}
				for _, cells := range [][]int{nil, {2, 9}, cellsFrom(0, 15)} {
					for _, j := range append(phasesAndNexts(planOf(bad, other, cells...)), phasesAndNexts(planOf(other, bad, cells...))...) {
						checkStep(t, k, j, k, j)
						checkRun(t, k, j, 20, k, j)
					}
				}
			}
		}
	}
}

// Two pages on one frame stay as they are, whatever their modes, with the first frame and with the last one.
func TestJobsOfPagesOnOneFrame(t *testing.T) {
	for _, words := range []string{"w0 w1 w0 w3", "r0 w1 w0 w3", "w0 w1 r0 w3", "r0 w1 r0 w3", "w3 w1 r3 w0", "r3 . w3 w1", "w0 w0 w0"} {
		for _, refuse := range [][]int{nil, {3}} {
			m := impl.Machine{Table: tableOf(words)}
			used := []byte("....")
			for _, e := range m.Table.Entries {
				if e.Mode != 0 {
					used[e.Frame] = 'x'
				}
			}
			k := kernelOf(words, string(used), 3, refuse...)
			for _, p := range []impl.Plan{planOf(0, 2), planOf(2, 0), planOf(0, 2, 2, 9), planOf(2, 0, 0, 15)} {
				for _, j := range phasesAndNexts(p) {
					checkStuck(t, k, j)
				}
			}
		}
	}
}

// A kernel with 100000 calls performs no step, also none without a call; with 99999, all phases are as before.
func TestJobsOfFullKernels(t *testing.T) {
	for _, refuse := range [][]int{nil, {99999}, {100000}, {99999, 100000}, {99998}} {
		for _, p := range []impl.Plan{planOf(0, 3), planOf(3, 0, 2, 9), planOf(2, 0, cellsFrom(0, 15)...)} {
			for _, j := range phasesAndNexts(p) {
				checkStuck(t, kernelOf("w3 . r0 w1", "xx.x", 100000, refuse...), j)
				for _, calls := range []int{99997, 99998, 99999} {
					k := kernelOf("w3 . r0 w1", "xx.x", calls, refuse...)
					wantKernel, wantJob := stepModel(k, j)
					checkStep(t, k, j, wantKernel, wantJob)
					wantKernel, wantJob = runModel(k, j, 200)
					checkRun(t, k, j, 200, wantKernel, wantJob)
				}
			}
		}
	}
}

// A job that uses up the calls of its kernel stops where it is, even in the middle of copying.
func TestJobAtTheLastCall(t *testing.T) {
	p := planOf(0, 3, 2, 9)
	checkRun(t, kernelOf("w3 . r0 w1", "xx.x", 99999), jobOf(p, 0, 0), 200, kernelOf("w3 . r0 r1", "xx.x", 100000), jobOf(p, 1, 0))
	checkRun(t, kernelOf("w3 . r0 w1", "xx.x", 99999, 99999), jobOf(p, 0, 0), 200, kernelOf("w3 . r0 w1", "xx.x", 100000, 99999), jobOf(p, 5, 0))
	k := kernelOf("w3 . r0 w1", "xx.x", 99998, 99999)
	gotKernel, gotJob := impl.JobRun(k, jobOf(p, 0, 0), 200)
	if gotKernel.Calls != 100000 || !sameJob(gotJob, jobOf(p, 3, 2)) || !sameKernel(gotKernel, copied(kernelOf("w3 . r0 r1", "xx.x", 100000, 99999), 1, 3, p.Cells)) {
		t.Error("after the remapping was refused as the last call:", gotKernel, gotJob)
	}
	k = kernelOf("w3 . r0 w1", "xx.x", 99998)
	gotKernel, gotJob = impl.JobRun(k, jobOf(p, 0, 0), 200)
	if gotKernel.Calls != 100000 || !sameJob(gotJob, jobOf(p, 4, 2)) || entryAt(gotKernel.Machine, 3) != entryOf(2, 3) {
		t.Error("after the remapping was granted as the last call:", gotKernel, gotJob)
	}
}

// course tells which calls of a whole job are refused: the first protection, the remapping, and how many of those that end the protection.
type course struct {
	cells    int
	protect  bool
	remap    bool
	unlocked int
}

// refusals are the numbers of the refused calls of a kernel whose next call is first.
func (c course) refusals(first int) []int {
	list := []int{}
	for i := c.unlocked; i > 0; i-- {
		list = append(list, first+1+i)
	}
	if c.protect {
		list = append(list, first)
	}
	if c.remap {
		list = append(list, first+1)
	}
	return list
}

// steps is the number of steps until the job is over.
func (c course) steps() int {
	switch {
	case c.protect:
		return 1
	case !c.remap:
		return c.cells + 3
	}
	return 2*c.cells + 4 + c.unlocked
}

// progress is what a number of steps leaves of a whole job: next cells of the plan are in both frames, unless the pages are on one frame.
type progress struct {
	phase, next, calls, mode int
	joined                   bool
}

func (c course) after(steps int) progress {
	n := c.cells
	switch {
	case steps == 0:
		return progress{phase: 0, mode: 2}
	case c.protect:
		return progress{phase: 5, calls: 1, mode: 2}
	case steps <= n+1:
		return progress{phase: 1, next: steps - 1, calls: 1, mode: 1}
	case steps == n+2:
		return progress{phase: 2, next: n, calls: 1, mode: 1}
	case !c.remap:
		return progress{phase: 4, next: n, calls: 2, mode: 2, joined: true}
	case steps <= 2*n+3:
		return progress{phase: 3, next: 2*n + 3 - steps, calls: 2, mode: 1}
	case steps <= 2*n+3+c.unlocked:
		return progress{phase: 3, calls: steps - 2*n - 1, mode: 1}
	}
	return progress{phase: 5, calls: 3 + c.unlocked, mode: 2}
}

// courses are those of jobs with a number of cells, up to as many refusals as a kernel can have.
func courses(cells int) []course {
	list := []course{{cells: cells, protect: true}, {cells: cells}}
	for _, unlocked := range []int{0, 1, 2, 5, 39} {
		list = append(list, course{cells: cells, remap: true, unlocked: unlocked})
	}
	return list
}

// meshing is a pair of pages to be meshed: Keep is on frame 2 and Move on frame 0. Other pages are on frame 1, and on the frames of both if shared.
type meshing struct {
	plan   impl.Plan
	texts  [2][]int
	shared bool
}

// kernel is the kernel after some progress of the job, built by hand; its call number 7 was the next one before the job.
func (m meshing) kernel(p progress, refuse []int) impl.Kernel {
	words := make([]string, 32)
	for page := range words {
		words[page] = "."
	}
	others := []string{"w1"}
	if m.shared {
		others = []string{"w1", "r2", "r0"}
	}
	for page := range words {
		switch {
		case page == m.plan.Keep:
			words[page] = "w2"
		case page == m.plan.Move && p.joined:
			words[page] = "w2"
		case page == m.plan.Move:
			words[page] = " rw"[p.mode:p.mode+1] + "0"
		case len(others) > 0:
			words[page], others = others[0], others[1:]
		}
	}
	used := "xxx."
	if p.joined && !m.shared {
		used = ".xx."
	}
	k := kernelOf(strings.Join(words, " "), used, 7+p.calls, refuse...)
	withCells(k.Machine.Frames, 2, slices.Clone(m.texts[0]))
	for _, at := range m.plan.Cells[:p.next] {
		withCell(k.Machine.Frames, 2, at, m.texts[1][at])
	}
	if used[0] == 'x' {
		withCells(k.Machine.Frames, 0, slices.Clone(m.texts[1]))
	}
	return k
}

func (m meshing) job(p progress) impl.Job {
	return jobOf(m.plan, p.phase, p.next)
}

// checkContents checks that all cells in use can be loaded at their addresses, whatever the job has done: those of the plan in Move and all but those in Keep.
func (m meshing) checkContents(t *testing.T, k impl.Kernel) {
	t.Helper()
	for at := range 16 {
		page, text := m.plan.Keep, m.texts[0]
		if slices.Contains(m.plan.Cells, at) {
			page, text = m.plan.Move, m.texts[1]
		}
		if v, fault := impl.Load(k.Machine, 16*page+at); v != text[at] || fault != 0 {
			t.Fatalf("cell %d of page %d is %d with fault %d, want %d", at, page, v, fault, text[at])
		}
	}
}

// meshings are pairs of pages with plans for cells, with any contents of the free cells of Move.
func meshings(pages [2]int, cells []int) []meshing {
	p := planOf(pages[0], pages[1], cells...)
	keep := textFrom(800)
	for _, at := range cells {
		keep[at] = 0
	}
	return []meshing{
		{plan: p, texts: [2][]int{keep, usedText(900, cells)}},
		{plan: p, texts: [2][]int{keep, usedText(900, cells)}, shared: true},
		{plan: p, texts: [2][]int{keep, textFrom(900)}, shared: true},
	}
}

// checkCourse checks each step of a whole job, and that it ends with both pages on one frame or with everything as it was.
func checkCourse(t *testing.T, m meshing, c course, refuse []int) {
	t.Helper()
	k, j := m.kernel(c.after(0), refuse), m.job(c.after(0))
	start := k
	for step := range c.steps() {
		wantKernel, wantJob := m.kernel(c.after(step+1), refuse), m.job(c.after(step+1))
		checkStep(t, k, j, wantKernel, wantJob)
		k, j = impl.JobStep(k, j)
		m.checkContents(t, k)
		if over := j.Phase == 4 || j.Phase == 5; over != (step+1 == c.steps()) || !impl.KernelOk(k) || !impl.JobOk(j) {
			t.Fatalf("after step %d of %v: %v, %v", step, c, j, k)
		}
	}
	checkStep(t, k, j, k, j)
	if j.Phase == 4 {
		if entryAt(k.Machine, m.plan.Keep) != entryAt(k.Machine, m.plan.Move) || !slices.Equal(impl.PageText(k.Machine, m.plan.Keep), impl.MergedText(m.texts[0], m.texts[1], m.plan)) {
			t.Errorf("the pages of %v are not on one frame with all cells: %v", m, k)
		}
	} else if !sameMachine(k.Machine, start.Machine) {
		t.Errorf("the machine was %v before %v, and is %v", start.Machine, j, k.Machine)
	}
}

// A whole job of each kind of plan, with a refusal at each of its calls.
func TestWholeJobs(t *testing.T) {
	for i, pages := range somePlanPages() {
		for _, cells := range someCells() {
			for _, m := range meshings(pages, cells) {
				for _, c := range courses(len(cells)) {
					if c.unlocked < 39 || i < 2 {
						checkCourse(t, m, c, c.refusals(7))
					}
				}
			}
		}
	}
}

// Refusals of other calls change nothing.
func TestWholeJobsWithOtherRefusals(t *testing.T) {
	for _, cells := range [][]int{nil, {4, 5, 6}, cellsFrom(0, 15)} {
		for _, m := range meshings([2]int{5, 4}, cells) {
			checkCourse(t, m, course{cells: len(cells)}, []int{6, 0, 9, 10, 100000})
			checkCourse(t, m, course{cells: len(cells), protect: true}, []int{8, 9, 7, 9})
			checkCourse(t, m, course{cells: len(cells), remap: true}, []int{6, 8, 10, 11})
			checkCourse(t, m, course{cells: len(cells), remap: true, unlocked: 2}, []int{8, 10, 12, 9, 5})
		}
	}
}

// The contents of each two spans that fit survive a job that follows their plan, whatever is refused.
func TestJobsOfSpans(t *testing.T) {
	for class := 1; class < impl.Classes; class++ {
		for i, aSlots := range slotTexts(class) {
			for _, bSlots := range slotTexts(class) {
				if !fits(aSlots, bSlots) {
					continue
				}
				p, _ := impl.PlanPair(spanOf(3, aSlots), spanOf(12, bSlots))
				texts := [2][]int{usedText(600, cellsIn(aSlots)), usedText(700, cellsIn(bSlots))}
				if p.Keep == 12 {
					texts[0], texts[1] = texts[1], texts[0]
				}
				list := courses(len(p.Cells))
				c := list[i%(len(list)-1)]
				m := meshing{plan: p, texts: texts, shared: i%2 == 0}
				k, _ := impl.JobRun(m.kernel(c.after(0), c.refusals(7)), jobOf(p, 0, 0), 200)
				if end := c.after(c.steps()); !sameKernel(k, m.kernel(end, c.refusals(7))) {
					t.Errorf("the job of %v with %v leaves %v", m, c, k)
				}
			}
		}
	}
}

// A run from any step with any number of steps is as the steps one by one, so that a job in parts ends as one at once.
func TestJobRunInParts(t *testing.T) {
	for _, cells := range [][]int{nil, {7}, {0, 5, 15}, cellsFrom(0, 15)} {
		for i, m := range meshings([2]int{9, 2}, cells) {
			for _, c := range courses(len(cells)) {
				if c.unlocked == 39 && i > 0 {
					continue
				}
				refuse, steps := c.refusals(7), c.steps()
				for from := range steps + 1 {
					k, j := m.kernel(c.after(from), refuse), m.job(c.after(from))
					for _, most := range []int{0, 1, 2, 3, 10, steps - from - 1, steps - from, steps - from + 1, 199, 200} {
						if most >= 0 {
							to := c.after(min(from+most, steps))
							checkRun(t, k, j, most, m.kernel(to, refuse), m.job(to))
						}
					}
				}
			}
		}
	}
}

// Runs of each length, one after another, end as one run with 200 as most.
func TestJobRunsOneAfterAnother(t *testing.T) {
	for length := 1; length <= 80; length++ {
		for _, c := range courses(6) {
			m := meshings([2]int{31, 0}, cellsFrom(4, 9))[length%3]
			k, j := m.kernel(c.after(0), c.refusals(7)), m.job(c.after(0))
			wantKernel, wantJob := impl.JobRun(k, j, 200)
			for range (c.steps() + length - 1) / length {
				if j.Phase == 4 || j.Phase == 5 {
					t.Fatalf("%v is over too early in runs of %d", c, length)
				}
				k, j = impl.JobRun(k, j, length)
			}
			if !sameKernel(k, wantKernel) || !sameJob(j, wantJob) || !sameJob(j, m.job(c.after(c.steps()))) {
				t.Errorf("%v in runs of %d ends with %v and %v", c, length, k, j)
			}
		}
	}
}

// A number of steps that is not in its range is no reason to perform some of them.
func TestJobRunRejects(t *testing.T) {
	bad := append(noIndexes(), -200, -201, 201, 202, 400, 1<<32+7, 1<<32+200)
	bad = slices.DeleteFunc(bad, func(n int) bool { return n == 64 })
	for _, p := range []impl.Plan{planOf(0, 3), planOf(0, 3, 2, 9), planOf(3, 2, cellsFrom(0, 15)...)} {
		for _, j := range phasesAndNexts(p) {
			for _, refuse := range [][]int{nil, {3}} {
				k := kernelOf("w3 . r0 w1", "xx.x", 3, refuse...)
				for _, most := range bad {
					checkRun(t, k, j, most, k, j)
				}
			}
		}
	}
	for _, most := range append(bad, 0, 1, 200, math.MaxInt) {
		for _, k := range badKernels() {
			checkRun(t, k, jobOf(planOf(0, 3, 2, 9), 0, 0), most, k, jobOf(planOf(0, 3, 2, 9), 0, 0))
		}
		for _, j := range badJobs()[:40] {
			k := kernelOf("w3 . r0 w1", "xx.x", 3)
			checkRun(t, k, j, most, k, j)
		}
	}
}

// A job that is over takes no steps, also if its pages are on different frames.
func TestJobRunOfJobsThatAreOver(t *testing.T) {
	for _, words := range []string{"w3 . r0 w1", "w3 . r0 r1", "w0 . r3 w1"} {
		for _, refuse := range [][]int{nil, {3}} {
			k := kernelOf(words, "xx.x", 3, refuse...)
			for next := range 3 {
				checkStuck(t, k, jobOf(planOf(0, 3, 2, 9), impl.MsDone, next))
				checkStuck(t, k, jobOf(planOf(0, 3, 2, 9), impl.MsUndone, next))
			}
		}
	}
}

// Any phase and Next can be handed in, and a run goes on from there.
func TestJobRunFromAnyState(t *testing.T) {
	for _, words := range []string{"w3 . r0 w1", "w3 . r0 r1", "r3 . w0 w1", "r3 w3 w0 r1", "w3 r1 w0 r1"} {
		for _, refuse := range [][]int{nil, {3}, {4}, {3, 4}, {4, 5, 7}, {5, 3}} {
			k := kernelOf(words, "xx.x", 3, refuse...)
			for _, p := range []impl.Plan{planOf(0, 3), planOf(3, 0, 0), planOf(0, 2, 2, 9), planOf(2, 3, 0, 14, 15)} {
				for _, j := range phasesAndNexts(p) {
					for _, most := range []int{0, 1, 2, 3, 4, 5, 6, 7, 8, 200} {
						wantKernel, wantJob := runModel(k, j, most)
						checkRun(t, k, j, most, wantKernel, wantJob)
					}
				}
			}
		}
	}
}

// What is in the cells of Keep before they are copied is not restored: the plan tells that they are free.
func TestUndoneJobOfCellsThatAreNotFree(t *testing.T) {
	k, j := impl.JobRun(kernelOf("w0 w1", "xx", 0, 1), jobOf(planOf(0, 1, 3, 4), 0, 0), 200)
	want := []int{0, 1, 2, 0, 0, 5, 6, 7, 8, 9, 10, 11, 12, 13, 14, 15}
	if j.Phase != 5 || k.Calls != 3 || !slices.Equal(impl.PageText(k.Machine, 0), want) || !slices.Equal(impl.PageText(k.Machine, 1), textFrom(100)) {
		t.Error("the job leaves", k, j)
	}
}

// One list may stand for the refused calls, for the cells of frames, and for those of the plan; no slices of the results share memory.
func TestJobWhoseSlicesShareMemory(t *testing.T) {
	shared := cellsFrom(0, 15)
	for phase := range 6 {
		for _, most := range []int{-1, 0, 1, 200} {
			frames := impl.Frames{Cells: [][]int{shared, shared}, Used: []bool{true, true}}
			k := impl.Kernel{Machine: impl.Machine{Frames: frames, Table: tableOf("w0 w1")}, Calls: 20, Refuse: shared}
			j := impl.Job{Plan: impl.Plan{Keep: 0, Move: 1, Cells: shared}, Phase: phase, Next: 4}
			gotKernel, gotJob := impl.JobRun(k, j, most)
			if !apart(gotKernel.Machine.Frames) || !slices.Equal(gotKernel.Refuse, cellsFrom(0, 15)) || !slices.Equal(gotJob.Plan.Cells, cellsFrom(0, 15)) {
				t.Error("slices of the results of JobRun share memory:", phase, most)
			}
			scribbleList(gotKernel.Refuse)
			if !slices.Equal(gotJob.Plan.Cells, cellsFrom(0, 15)) {
				t.Error("Refuse and Cells share memory:", phase, most)
			}
			scribbleList(gotJob.Plan.Cells)
			gotKernel, gotJob = impl.JobStep(k, j)
			scribbleList(gotJob.Plan.Cells)
			if !slices.Equal(gotKernel.Refuse, cellsFrom(0, 15)) || !apart(gotKernel.Machine.Frames) {
				t.Error("slices of the results of JobStep share memory:", phase)
			}
			if !slices.Equal(shared, cellsFrom(0, 15)) {
				t.Fatal("the shared memory has changed:", shared)
			}
		}
	}
}
