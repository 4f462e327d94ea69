package tests

import (
	"math"
	"slices"
	"testing"

	"loop.example/g00978/impl"
)

// beyond stands behind the end of the slices of an argument and over those of a result; no frame holds it.
const beyond = -77

// noIndexes are numbers that are no index of anything.
func noIndexes() []int {
	return []int{-1, -2, -16, -32, math.MinInt, math.MinInt + 1, 64, 1 << 31, 1 << 32, 1<<32 + 1, 1 << 62, math.MaxInt - 1, math.MaxInt}
}

// framesOf builds frames by hand: an x in used stands for a used frame, whose cell k is 100 times its index plus k, and a dot for one that is not used.
func framesOf(used string) impl.Frames {
	f := impl.Frames{}
	for i := range len(used) {
		cells := make([]int, 16)
		for k := range cells {
			if used[i] == 'x' {
				cells[k] = (100*i + k) % 1000
			}
		}
		f.Cells = append(f.Cells, cells)
		f.Used = append(f.Used, used[i] == 'x')
	}
	return f
}

// withCell returns f with one cell changed, whatever the value.
func withCell(f impl.Frames, i int, at int, v int) impl.Frames {
	f.Cells[i][at] = v
	return f
}

// withCells returns f with other cells of a frame, however many.
func withCells(f impl.Frames, i int, cells []int) impl.Frames {
	f.Cells[i] = cells
	return f
}

// badFrames are frames that are not valid, each for one reason, and one for several.
func badFrames() map[string]impl.Frames {
	full := framesOf("xx.x")
	return map[string]impl.Frames{
		"no frames":                         {},
		"no frames, empty slices":           {Cells: [][]int{}, Used: []bool{}},
		"one frame too many, not used":      framesOf(noted(33, '.')),
		"one frame too many, used":          framesOf(noted(33, 'x')),
		"many frames":                       framesOf(noted(100, 'x')),
		"Used is too short":                 {Cells: full.Cells, Used: full.Used[:3]},
		"Used is too long":                  {Cells: full.Cells, Used: append(slices.Clone(full.Used), false)},
		"Used is nil":                       {Cells: full.Cells},
		"Cells is nil":                      {Used: full.Used},
		"the last frame has no cells":       withCells(framesOf("xx.x"), 3, nil),
		"a frame that is not used is nil":   withCells(framesOf("xx.x"), 2, nil),
		"the first frame has 15 cells":      withCells(framesOf("xx.x"), 0, make([]int, 15)),
		"the first frame has 17 cells":      withCells(framesOf("xx.x"), 0, make([]int, 17)),
		"the unused frame has 15 cells":     withCells(framesOf("xx.x"), 2, make([]int, 15)),
		"the unused frame has 17 cells":     withCells(framesOf("xx.x"), 2, make([]int, 17)),
		"the first cell is -1":              withCell(framesOf("xx.x"), 0, 0, -1),
		"the last cell is -1":               withCell(framesOf("xx.x"), 3, 15, -1),
		"the first cell is 1000":            withCell(framesOf("xx.x"), 0, 0, 1000),
		"the last cell is 1000":             withCell(framesOf("xx.x"), 3, 15, 1000),
		"a cell is the largest integer":     withCell(framesOf("xx.x"), 1, 7, math.MaxInt),
		"a cell is the smallest integer":    withCell(framesOf("xx.x"), 1, 7, math.MinInt),
		"an unused frame's first cell is 1": withCell(framesOf("xx.x"), 2, 0, 1),
		"an unused frame's last cell is 1":  withCell(framesOf("xx.x"), 2, 15, 1),
		"an unused frame has a cell -1":     withCell(framesOf("xx.x"), 2, 8, -1),
		"an unused frame has a cell 1000":   withCell(framesOf("xx.x"), 2, 8, 1000),
		"all of it":                         {Cells: [][]int{{-1}, nil, {1000, 2}}, Used: []bool{true, true}},
	}
}

// noted repeats a letter of framesOf.
func noted(n int, letter byte) string {
	return string(slices.Repeat([]byte{letter}, n))
}

// sameFrames compares frames; a nil slice is an empty one.
func sameFrames(f impl.Frames, g impl.Frames) bool {
	return slices.EqualFunc(f.Cells, g.Cells, slices.Equal) && slices.Equal(f.Used, g.Used)
}

// spacious returns frames that equal f and have spare capacity behind each slice, filled with what no frame holds.
func spacious(f impl.Frames) impl.Frames {
	cells := make([][]int, 0, len(f.Cells)+2)
	for _, frame := range f.Cells {
		cells = append(cells, append(slices.Clone(frame), beyond, beyond)[:len(frame)])
	}
	spare := []int{beyond}
	cells = append(cells, spare, spare)[:len(f.Cells)]
	return impl.Frames{Cells: cells, Used: append(slices.Clone(f.Used), true, true)[:len(f.Used)]}
}

// untouched reports whether frames that spacious returned equal f still, with the same behind each slice.
func untouched(frames impl.Frames, f impl.Frames) bool {
	if !sameFrames(frames, f) {
		return false
	}
	for _, cells := range frames.Cells {
		if behind := cells[len(cells):cap(cells)]; behind[0] != beyond || behind[1] != beyond {
			return false
		}
	}
	used := frames.Used[len(frames.Used):cap(frames.Used)]
	cells := frames.Cells[len(frames.Cells):cap(frames.Cells)]
	return used[0] && used[1] && slices.Equal(cells[0], []int{beyond}) && slices.Equal(cells[1], []int{beyond})
}

// scribble fills the slices of a result up to their capacity.
func scribble(f impl.Frames) {
	for _, cells := range f.Cells {
		for k := range cells[:cap(cells)] {
			cells[:cap(cells)][k] = 2 * beyond
		}
	}
	for i := range f.Used[:cap(f.Used)] {
		f.Used[:cap(f.Used)][i] = false
	}
	for i := range f.Cells[:cap(f.Cells)] {
		f.Cells[:cap(f.Cells)][i] = nil
	}
}

// apart reports whether no two frames share memory, up to their capacity.
func apart(f impl.Frames) bool {
	for i, cells := range f.Cells {
		for k := range cells[:cap(cells)] {
			cells[:cap(cells)][k] = i
		}
	}
	for i, cells := range f.Cells {
		for _, v := range cells[:cap(cells)] {
			if v != i {
				return false
			}
		}
	}
	return true
}

// checkFrames makes a call on frames with spare capacity and checks the frames that it returns, that these share no memory with the argument or with one another, and that the argument stays as it was.
func checkFrames(t *testing.T, name string, f impl.Frames, want impl.Frames, call func(impl.Frames) impl.Frames) {
	t.Helper()
	argument := spacious(f)
	got := call(argument)
	if !sameFrames(got, want) {
		t.Errorf("%s: the frames are %v, want %v", name, got, want)
	}
	if !untouched(argument, f) {
		t.Errorf("%s: the argument has changed", name)
	}
	if !apart(got) {
		t.Errorf("%s: frames of the result share memory", name)
	}
	scribble(got)
	if !untouched(argument, f) {
		t.Errorf("%s: the result shares memory with the argument", name)
	}
}

func checkTake(t *testing.T, name string, f impl.Frames, want impl.Frames, index int, taken bool) {
	t.Helper()
	checkFrames(t, name, f, want, func(f impl.Frames) impl.Frames {
		got, i, ok := impl.FrameTake(f)
		if i != index || ok != taken {
			t.Errorf("%s: FrameTake took %d, %v, want %d, %v", name, i, ok, index, taken)
		}
		return got
	})
}

func checkGive(t *testing.T, name string, f impl.Frames, i int, want impl.Frames, given bool) {
	t.Helper()
	checkFrames(t, name, f, want, func(f impl.Frames) impl.Frames {
		got, ok := impl.FrameGive(f, i)
		if ok != given {
			t.Errorf("%s: FrameGive(%d) is %v", name, i, ok)
		}
		return got
	})
}

func checkWrite(t *testing.T, name string, f impl.Frames, i int, at int, v int, want impl.Frames, written bool) {
	t.Helper()
	checkFrames(t, name, f, want, func(f impl.Frames) impl.Frames {
		got, ok := impl.FrameWrite(f, i, at, v)
		if ok != written {
			t.Errorf("%s: FrameWrite(%d, %d, %d) is %v", name, i, at, v, ok)
		}
		return got
	})
}

func checkRead(t *testing.T, name string, f impl.Frames, i int, at int, v int, read bool) {
	t.Helper()
	argument := spacious(f)
	if got, ok := impl.FrameRead(argument, i, at); got != v || ok != read {
		t.Errorf("%s: FrameRead(%d, %d) = %d, %v, want %d, %v", name, i, at, got, ok, v, read)
	}
	if !untouched(argument, f) {
		t.Errorf("%s: FrameRead has changed the argument", name)
	}
}

func TestLimitsOfFrames(t *testing.T) {
	if impl.MaxFrames != 32 || impl.MaxValue != 999 {
		t.Error("the limits are", impl.MaxFrames, impl.MaxValue)
	}
}

func TestFramesNew(t *testing.T) {
	for n := 1; n <= impl.MaxFrames; n++ {
		f, ok := impl.FramesNew(n)
		if !ok || len(f.Cells) != n || !sameFrames(f, framesOf(noted(n, '.'))) {
			t.Errorf("FramesNew(%d) = %v, %v", n, f, ok)
		}
		if !impl.FramesOk(f) || impl.UsedFrames(f) != 0 {
			t.Errorf("FramesNew(%d): valid is %v, and %d are used", n, impl.FramesOk(f), impl.UsedFrames(f))
		}
		if !apart(f) {
			t.Errorf("FramesNew(%d): frames share memory", n)
		}
		scribble(f)
		if again, _ := impl.FramesNew(n); !sameFrames(again, framesOf(noted(n, '.'))) {
			t.Errorf("FramesNew(%d) after its result was written over: %v", n, again)
		}
	}
}

func TestFramesNewRejects(t *testing.T) {
	for _, n := range append(noIndexes(), 0, -3, impl.MaxFrames+1, impl.MaxFrames+2, 63, 1000) {
		if f, ok := impl.FramesNew(n); ok || len(f.Cells) != 0 || len(f.Used) != 0 {
			t.Errorf("FramesNew(%d) = %v, %v", n, f, ok)
		}
	}
}

func TestFramesOk(t *testing.T) {
	valid := map[string]impl.Frames{
		"one frame, not used":           framesOf("."),
		"one frame, used":               framesOf("x"),
		"some used":                     framesOf("x.xx."),
		"all used":                      framesOf("xxxxx"),
		"the most frames, none used":    framesOf(noted(32, '.')),
		"the most frames, all used":     framesOf(noted(32, 'x')),
		"the most frames, the last too": framesOf(noted(31, '.') + "x"),
		"a used frame of zeros":         {Cells: [][]int{make([]int, 16)}, Used: []bool{true}},
		"a cell is 999":                 withCell(framesOf("x.x"), 0, 0, 999),
		"the last cell is 999":          withCell(framesOf("x.x"), 2, 15, 999),
		"a cell is 0":                   withCell(framesOf("x.x"), 2, 15, 0),
	}
	for name, f := range valid {
		if argument := spacious(f); !impl.FramesOk(argument) || !untouched(argument, f) {
			t.Errorf("%s: FramesOk is false, or has changed its argument", name)
		}
	}
	for name, f := range badFrames() {
		if argument := spacious(f); impl.FramesOk(argument) || !untouched(argument, f) {
			t.Errorf("%s: FramesOk is true, or has changed its argument", name)
		}
	}
}

// Each cell of a frame counts, and so does each frame.
func TestFramesOkLooksAtEachCell(t *testing.T) {
	const used = "x.x.xx"
	for i := range len(used) {
		for at := range 16 {
			for _, v := range []int{-1, 0, 1, 999, 1000} {
				want := v == 0 || used[i] == 'x' && v >= 0 && v <= 999
				if got := impl.FramesOk(withCell(framesOf(used), i, at, v)); got != want {
					t.Errorf("cell %d of frame %d is %d: FramesOk is %v", at, i, v, got)
				}
			}
		}
	}
}

func TestUsedFrames(t *testing.T) {
	cases := []struct {
		used string
		want int
	}{
		{".", 0}, {"x", 1}, {"..", 0}, {".x", 1}, {"x.", 1}, {"xx", 2}, {"x.xx.", 3}, {"....x", 1}, {".xxx.", 3},
		{noted(32, '.'), 0}, {noted(32, 'x'), 32}, {noted(31, 'x') + ".", 31}, {noted(31, '.') + "x", 1},
	}
	for _, c := range cases {
		f := framesOf(c.used)
		if argument := spacious(f); impl.UsedFrames(argument) != c.want || !untouched(argument, f) {
			t.Errorf("%s: UsedFrames is %d, want %d, or has changed its argument", c.used, impl.UsedFrames(argument), c.want)
		}
	}
	for name, f := range badFrames() {
		if got := impl.UsedFrames(f); got != 0 {
			t.Errorf("%s: UsedFrames is %d", name, got)
		}
	}
}

func TestFrameTake(t *testing.T) {
	cases := []struct {
		used  string
		index int
	}{
		{".", 0}, {"..", 0}, {"x.", 1}, {".x", 0}, {"xx.xx", 2}, {"x.x.x", 1}, {"xxxx.", 4}, {".xxxx", 0}, {"x....", 1}, {".....", 0},
		{noted(32, '.'), 0}, {noted(31, 'x') + ".", 31}, {noted(30, 'x') + "..", 30}, {"." + noted(31, 'x'), 0},
	}
	for _, c := range cases {
		want := framesOf(c.used)
		want.Used[c.index] = true
		checkTake(t, c.used, framesOf(c.used), want, c.index, true)
	}
}

func TestFrameTakeRejects(t *testing.T) {
	for _, used := range []string{"x", "xx", "xxxxx", noted(32, 'x')} {
		checkTake(t, used, framesOf(used), framesOf(used), -1, false)
	}
	for name, f := range badFrames() {
		checkTake(t, name, f, f, -1, false)
	}
}

// The frames are taken in ascending order, each empty, until all are used.
func TestFrameTakeUntilAllAreUsed(t *testing.T) {
	f, _ := impl.FramesNew(impl.MaxFrames)
	for i := range impl.MaxFrames {
		next, taken, ok := impl.FrameTake(f)
		if !ok || taken != i || impl.UsedFrames(next) != i+1 || !impl.FramesOk(next) {
			t.Fatalf("the take after %d: %d, %v, and %d are used", i, taken, ok, impl.UsedFrames(next))
		}
		for at := range impl.PageCells {
			checkRead(t, "a taken frame", next, i, at, 0, true)
		}
		f, _ = impl.FrameWrite(next, i, 5, 7)
	}
	checkTake(t, "all are used", f, f, -1, false)
}

// A frame that is given back is empty, and so it is when it is taken again.
func TestFrameGive(t *testing.T) {
	for _, used := range []string{"x", "xx", "x.x.x", ".x", "xxxxx", noted(32, 'x'), noted(31, '.') + "x"} {
		for i := range len(used) {
			f, want := framesOf(used), framesOf(used)
			want.Cells[i], want.Used[i] = make([]int, 16), false
			checkGive(t, used, f, i, want, used[i] == 'x')
		}
	}
	f, _ := impl.FrameGive(framesOf("xxx"), 1)
	if f, i, ok := impl.FrameTake(f); !ok || i != 1 || !slices.Equal(f.Cells[1], make([]int, 16)) {
		t.Errorf("taken again: %v, %d, %v", f, i, ok)
	}
}

func TestFrameGiveTwice(t *testing.T) {
	f, first := impl.FrameGive(framesOf("xxx"), 2)
	if !first || impl.UsedFrames(f) != 2 {
		t.Error("the frame is not given back:", first, f)
	}
	checkGive(t, "again", f, 2, f, false)
}

func TestFrameGiveRejects(t *testing.T) {
	for _, i := range append(noIndexes(), 4, 5, 31, 32, 33) {
		checkGive(t, "no such frame", framesOf("xx.x"), i, framesOf("xx.x"), false)
	}
	for name, f := range badFrames() {
		for _, i := range []int{-1, 0, 1, 2, 3, 4, 32, math.MaxInt} {
			checkGive(t, name, f, i, f, false)
		}
	}
}

func TestFrameRead(t *testing.T) {
	const used = "x.xx.x"
	f := framesOf(used)
	for i := range len(used) {
		for at := range 16 {
			want := 0
			if used[i] == 'x' {
				want = 100*i + at
			}
			checkRead(t, used, f, i, at, want, used[i] == 'x')
		}
	}
}

func TestFrameReadRejects(t *testing.T) {
	for _, at := range append(noIndexes(), 16, 17, 31, 32) {
		checkRead(t, "no such cell", framesOf("xx.x"), 1, at, 0, false)
	}
	for _, i := range append(noIndexes(), 2, 4, 5, 31, 32, 33) {
		checkRead(t, "no such frame, or not used", framesOf("xx.x"), i, 3, 0, false)
	}
	for name, f := range badFrames() {
		for _, i := range []int{-1, 0, 1, 2, 3, 4, 32, math.MaxInt} {
			for _, at := range []int{-1, 0, 3, 15, 16, math.MaxInt} {
				checkRead(t, name, f, i, at, 0, false)
			}
		}
	}
}

// A written cell is read again, and no other cell changes.
func TestFrameWrite(t *testing.T) {
	const used = "x.xx"
	for i := range len(used) {
		for at := range 16 {
			for _, v := range []int{0, 1, 500, 998, 999} {
				written := used[i] == 'x'
				want := framesOf(used)
				if written {
					want.Cells[i][at] = v
				}
				checkWrite(t, used, framesOf(used), i, at, v, want, written)
				if got, _ := impl.FrameWrite(framesOf(used), i, at, v); written {
					checkRead(t, "written", got, i, at, v, true)
				}
			}
		}
	}
}

func TestFrameWriteRejects(t *testing.T) {
	f := framesOf("xx.x")
	for _, v := range []int{-1, -2, math.MinInt, 1000, 1001, 1 << 32, 1<<32 + 5, math.MaxInt} {
		checkWrite(t, "value", f, 1, 5, v, f, false)
		checkWrite(t, "value, not used", f, 2, 5, v, f, false)
	}
	for _, at := range append(noIndexes(), 16, 17, 32) {
		checkWrite(t, "no such cell", f, 1, at, 7, f, false)
	}
	for _, i := range append(noIndexes(), 2, 4, 5, 31, 32, 33) {
		checkWrite(t, "no such frame, or not used", f, i, 3, 7, f, false)
		checkWrite(t, "zero, no such frame, or not used", f, i, 3, 0, f, false)
	}
	for name, f := range badFrames() {
		for _, i := range []int{-1, 0, 1, 2, 3, 4, math.MaxInt} {
			for _, at := range []int{-1, 0, 3, 15, 16} {
				checkWrite(t, name, f, i, at, 7, f, false)
			}
		}
	}
}

// Frames of an argument may share memory; those of a result do not, so that a write changes one frame.
func TestFramesThatShareMemory(t *testing.T) {
	shared := make([]int, 16)
	f := impl.Frames{Cells: [][]int{shared, shared}, Used: []bool{true, true}}
	got, ok := impl.FrameWrite(f, 0, 4, 9)
	if !ok || got.Cells[0][4] != 9 || got.Cells[1][4] != 0 || shared[4] != 0 {
		t.Error("after the write:", got, shared, ok)
	}
}

// A walk through takes, gives and writes ends with the frames that a plain list of cells has.
func TestFramesWalk(t *testing.T) {
	f, _ := impl.FramesNew(6)
	cells := make([][]int, 6)
	seed := 3
	for step := range 2000 {
		seed = seedAfter(seed)
		act, i, at, v := seed>>10%5, seed>>13%8-1, seed>>16%18-1, seed>>20%1003-1
		switch {
		case act == 0:
			first := slices.IndexFunc(cells, func(c []int) bool { return c == nil })
			next, taken, ok := impl.FrameTake(f)
			if taken != first || ok != (first >= 0) {
				t.Fatalf("step %d: taken %d, %v, want %d", step, taken, ok, first)
			}
			if ok {
				cells[first] = make([]int, 16)
			}
			f = next
		case act == 1:
			next, ok := impl.FrameGive(f, i)
			if ok != (i >= 0 && i < 6 && cells[i] != nil) {
				t.Fatalf("step %d: given %d is %v", step, i, ok)
			}
			if ok {
				cells[i] = nil
			}
			f = next
		default:
			next, ok := impl.FrameWrite(f, i, at, v)
			if ok != (i >= 0 && i < 6 && cells[i] != nil && at >= 0 && at < 16 && v >= 0 && v < 1000) {
				t.Fatalf("step %d: written %d at %d of %d is %v", step, v, at, i, ok)
			}
			if ok {
				cells[i][at] = v
			}
			f = next
		}
		checkAgainstList(t, step, f, cells)
	}
}

// checkAgainstList compares frames with a list of cells, in which a frame that is not used is nil.
func checkAgainstList(t *testing.T, step int, f impl.Frames, cells [][]int) {
	t.Helper()
	used := 0
	for i, frame := range cells {
		if frame != nil {
			used++
		}
		for at := range 16 {
			want := 0
			if frame != nil {
				want = frame[at]
			}
			if got, ok := impl.FrameRead(f, i, at); got != want || ok != (frame != nil) {
				t.Fatalf("step %d: frame %d has %d, %v at %d, want %d", step, i, got, ok, at, want)
			}
		}
	}
	if got := impl.UsedFrames(f); got != used || !impl.FramesOk(f) {
		t.Fatalf("step %d: %d frames are used, want %d", step, got, used)
	}
}
