package tests

import (
	"math"
	"slices"
	"strconv"
	"strings"
	"testing"

	"loop.example/g00978/impl"
)

// machineOf builds a machine by hand, from the words of tableOf and the letters of framesOf.
func machineOf(words string, used string) impl.Machine {
	return impl.Machine{Frames: framesOf(used), Table: tableOf(words)}
}

// noAddresses are numbers that are no address of a machine with the given number of pages, 32 at the most.
func noAddresses(pages int) []int {
	list := []int{-15, -17, 16 * pages, 16*pages + 1, 16*pages + 15, 16 * (pages + 1), 16 * 32, 16*33 - 1, 16 * 33, 1 << 60, math.MaxInt - 15, math.MaxInt - 16}
	for _, addr := range noIndexes() {
		if addr < 0 || addr >= 16*pages {
			list = append(list, addr)
		}
	}
	return list
}

// noPages are numbers that are no page of a machine with the given number of pages.
func noPages(pages int) []int {
	return append(noIndexes(), pages, pages+1, 32, 33, 16*pages)
}

// badValues are values that no cell holds.
func badValues() []int {
	return []int{-1, -2, -999, math.MinInt, math.MinInt + 1, 1000, 1001, 1 << 32, 1<<32 + 5, math.MaxInt - 1, math.MaxInt}
}

// mismatchedMachines have valid frames and valid tables that do not fit one another.
func mismatchedMachines() map[string]impl.Machine {
	return map[string]impl.Machine{
		"no page is mapped to the first used frame":   machineOf("w3 . w1", "xx.x"),
		"no page is mapped to the last used frame":    machineOf("w0 . r1", "xx.x"),
		"no page is mapped to a used frame between":   machineOf("w3 . r0", "xx.x"),
		"no page is mapped to the only frame":         machineOf(".", "x"),
		"no page is mapped to many used frames":       machineOf("w0 w0", noted(32, 'x')),
		"no page is mapped to any used frame":         machineOf(". . . .", "xxxx"),
		"no page is mapped to a used frame of zeros":  {Frames: impl.Frames{Cells: [][]int{make([]int, 16)}, Used: []bool{true}}, Table: tableOf(". .")},
		"the first frame is mapped, but not used":     machineOf("w3 . r0 w1", ".x.x"),
		"the last frame is mapped, but not used":      machineOf("w3 . r0 w1", "xx.."),
		"a frame between is mapped, but not used":     machineOf("w3 . r0 w1", "x..x"),
		"the only frame is mapped, but not used":      machineOf("r0", "."),
		"no mapped frame is used":                     machineOf("w3 . r0 w1", "...."),
		"two pages are on a frame that is not used":   machineOf("w2 w2 w0 w1 w3", "xx.x"),
		"another frame is used than the mapped one":   machineOf("w0", ".x"),
		"as many frames are used, but other ones":     machineOf("w3 . r0 w1", "xxx."),
		"a page is behind the last frame":             machineOf("w3 . r0 w1 w4", "xx.x"),
		"the most pages, but the last frame is extra": machineOf(pagesOf(32, "w30"), noted(30, '.')+"xx"),
	}
}

// badMachines are machines that are not valid, nearly all of them for one reason only.
func badMachines() map[string]impl.Machine {
	const words, used = "w3 . r0 w1", "xx.x"
	list := mismatchedMachines()
	for name, f := range badFrames() {
		list["frames: "+name] = impl.Machine{Frames: f, Table: tableOf(words)}
	}
	for name, table := range badTables() {
		list["table: "+name] = impl.Machine{Frames: framesOf(used), Table: table}
	}
	list["33 frames that fit the table"] = machineOf(words, used+noted(29, '.'))
	list["33 frames that are not used"] = machineOf(". . .", noted(33, '.'))
	list["33 pages that fit the frames"] = machineOf(pagesOf(33, "w3"), "...x")
	list["33 pages that are not mapped"] = machineOf(pagesOf(33, "."), "....")
	list["no pages, and no used frames"] = machineOf("", "....")
	list["no frames, and no mapped pages"] = machineOf(". . .", "")
	list["nothing at all"] = impl.Machine{}
	short := machineOf("w0 r1 .", used)
	short.Frames.Used = short.Frames.Used[:3]
	list["Used is too short, but fits the table"] = short
	return list
}

func sameMachine(a impl.Machine, b impl.Machine) bool {
	return sameFrames(a.Frames, b.Frames) && sameTable(a.Table, b.Table)
}

// roomyMachine returns a machine that equals m and has spare capacity behind each slice, filled with what no machine holds.
func roomyMachine(m impl.Machine) impl.Machine {
	return impl.Machine{Frames: spacious(m.Frames), Table: roomyTable(m.Table)}
}

// untouchedMachine reports whether a machine that roomyMachine returned equals m still, with the same behind each slice.
func untouchedMachine(machine impl.Machine, m impl.Machine) bool {
	return untouched(machine.Frames, m.Frames) && untouchedTable(machine.Table, m.Table)
}

// scribbleMachine fills the slices of a result up to their capacity.
func scribbleMachine(m impl.Machine) {
	scribble(m.Frames)
	scribbleTable(m.Table)
}

func checkMachineOk(t *testing.T, name string, m impl.Machine, want bool) {
	t.Helper()
	argument := roomyMachine(m)
	if got := impl.MachineOk(argument); got != want {
		t.Errorf("%s: MachineOk is %v", name, got)
	}
	if !untouchedMachine(argument, m) {
		t.Errorf("%s: MachineOk has changed the argument", name)
	}
}

func checkLoad(t *testing.T, name string, m impl.Machine, addr int, v int, fault int) {
	t.Helper()
	argument := roomyMachine(m)
	if got, code := impl.Load(argument, addr); got != v || code != fault {
		t.Errorf("%s: Load(%d) = %d, %d, want %d, %d", name, addr, got, code, v, fault)
	}
	if !untouchedMachine(argument, m) {
		t.Errorf("%s: Load(%d) has changed the argument", name, addr)
	}
}

// checkStore stores a value in a machine with spare capacity and checks the result, that it shares no memory with the argument or in itself, and that the argument stays as it was.
func checkStore(t *testing.T, name string, m impl.Machine, addr int, v int, want impl.Machine, fault int) {
	t.Helper()
	argument := roomyMachine(m)
	got, code := impl.Store(argument, addr, v)
	if code != fault {
		t.Errorf("%s: Store(%d, %d) has the fault %d, want %d", name, addr, v, code, fault)
	}
	if !sameMachine(got, want) {
		t.Errorf("%s: Store(%d, %d) = %v, want %v", name, addr, v, got, want)
	}
	if !untouchedMachine(argument, m) {
		t.Errorf("%s: Store(%d, %d) has changed the argument", name, addr, v)
	}
	if !apart(got.Frames) {
		t.Errorf("%s: frames of the result of Store(%d, %d) share memory", name, addr, v)
	}
	scribbleMachine(got)
	if !untouchedMachine(argument, m) {
		t.Errorf("%s: the result of Store(%d, %d) shares memory with the argument", name, addr, v)
	}
}

// checkFault stores a value that is not accepted.
func checkFault(t *testing.T, name string, m impl.Machine, addr int, v int, fault int) {
	t.Helper()
	checkStore(t, name, m, addr, v, m, fault)
}

func checkPageText(t *testing.T, name string, m impl.Machine, page int, want []int) {
	t.Helper()
	argument := roomyMachine(m)
	got := impl.PageText(argument, page)
	if !slices.Equal(got, want) {
		t.Errorf("%s: PageText(%d) = %v, want %v", name, page, got, want)
	}
	for i := range got[:cap(got)] {
		got[:cap(got)][i] = 2 * beyond
	}
	if !untouchedMachine(argument, m) {
		t.Errorf("%s: PageText(%d) has changed the argument or shares memory with it", name, page)
	}
	if again := impl.PageText(argument, page); !slices.Equal(again, want) {
		t.Errorf("%s: PageText(%d) after its result was written over: %v", name, page, again)
	}
}

func TestFaults(t *testing.T) {
	if impl.FtNone != 0 || impl.FtPage != 1 || impl.FtWrite != 2 || impl.FtValue != 3 {
		t.Error("the faults are", impl.FtNone, impl.FtPage, impl.FtWrite, impl.FtValue)
	}
}

func TestMachineNew(t *testing.T) {
	for pages := 1; pages <= 32; pages++ {
		for frames := 1; frames <= 32; frames++ {
			want := machineOf(pagesOf(pages, "."), noted(frames, '.'))
			m, ok := impl.MachineNew(pages, frames)
			if !ok || len(m.Table.Entries) != pages || len(m.Frames.Used) != frames || !sameMachine(m, want) {
				t.Errorf("MachineNew(%d, %d) = %v, %v", pages, frames, m, ok)
			}
			if !impl.MachineOk(m) || !apart(m.Frames) {
				t.Errorf("MachineNew(%d, %d) is not valid, or its frames share memory", pages, frames)
			}
			scribbleMachine(m)
			if again, _ := impl.MachineNew(pages, frames); !sameMachine(again, want) {
				t.Errorf("MachineNew(%d, %d) after its result was written over: %v", pages, frames, again)
			}
		}
	}
}

// Each of the numbers is in a range of its own, and neither makes up for the other one.
func TestMachineNewRejects(t *testing.T) {
	bad := append(noIndexes(), 0, -3, 33, 34, 100, 1000)
	good := []int{1, 2, 16, 31, 32}
	pairs := [][2]int{}
	for _, n := range bad {
		for _, ok := range good {
			pairs = append(pairs, [2]int{n, ok}, [2]int{ok, n})
		}
		for _, other := range bad {
			pairs = append(pairs, [2]int{n, other})
		}
	}
	for _, p := range pairs {
		m, ok := impl.MachineNew(p[0], p[1])
		if ok || !sameMachine(m, impl.Machine{}) {
			t.Errorf("MachineNew(%d, %d) = %v, %v", p[0], p[1], m, ok)
		}
	}
}

func TestMachineOk(t *testing.T) {
	valid := [][2]string{
		{".", "."}, {"r0", "x"}, {"w0", "x"}, {". .", "."}, {"w0 .", "x."}, {". w1", ".x"}, {"w1 w0", "xx"},
		{"w0 w0", "x"}, {"w0 r0 . w0", "x"}, {"r1 r1 r1", ".x."}, {"w3 . r0 w1", "xx.x"}, {"w3 r3 . r0 w1 w0", "xx.x"},
		{"w3 . r0 w1", "xx.x" + noted(28, '.')}, {pagesOf(32, "w31"), noted(31, '.') + "x"}, {pagesOf(32, "r0"), "x"},
		{pagesOf(32, "."), noted(32, '.')}, {".", noted(32, '.')}, {pagesOf(32, "."), "."}, {pagesOf(31, ".") + "r31", noted(31, '.') + "x"},
	}
	for _, c := range valid {
		checkMachineOk(t, c[0]+" on "+c[1], machineOf(c[0], c[1]), true)
	}
	every := ""
	for frame := range 32 {
		every = every + " w" + strconv.Itoa(frame)
	}
	checkMachineOk(t, "each page on a frame of its own", machineOf(every, noted(32, 'x')), true)
	for name, m := range badMachines() {
		checkMachineOk(t, name, m, false)
	}
}

// Of all ways to use and to map three frames, those are valid in which the same frames are used and mapped.
func TestMachineOkComparesUsedWithMapped(t *testing.T) {
	words := []string{".", "r0", "w0", "r1", "w1", "r2", "w2"}
	for choice := range 7 * 7 * 7 {
		table := []string{words[choice%7], words[choice/7%7], words[choice/49]}
		mapped := []byte("...")
		for _, word := range table {
			if word != "." {
				mapped[word[1]-'0'] = 'x'
			}
		}
		for bits := range 8 {
			used := []byte("...")
			for frame := range used {
				if bits>>frame%2 == 1 {
					used[frame] = 'x'
				}
			}
			m := machineOf(strings.Join(table, " "), string(used))
			checkMachineOk(t, strings.Join(table, " ")+" on "+string(used), m, string(used) == string(mapped))
		}
	}
}

// All cells of all pages, the first and the last ones among them; framesOf gives each cell of a used frame a value of its own.
func TestLoad(t *testing.T) {
	cases := [][2]string{
		{"w0", "x"}, {"r0", "x"}, {"w3 . r0 w1", "xx.x"}, {". w2 r2 . w0 r2", "x.x"}, {". . .", "...."}, {"r1 r1 r1", ".x."},
		{pagesOf(31, ".") + "r7", noted(7, '.') + "x"}, {"w9 " + pagesOf(30, ".") + "w0", "x" + noted(8, '.') + "x"}, {pagesOf(32, "w4"), "....x"},
	}
	for _, c := range cases {
		m := machineOf(c[0], c[1])
		for page, e := range m.Table.Entries {
			for at := range 16 {
				if e.Mode == 0 {
					checkLoad(t, c[0], m, 16*page+at, 0, 1)
				} else {
					checkLoad(t, c[0], m, 16*page+at, 100*e.Frame+at, 0)
				}
			}
		}
		for _, addr := range noAddresses(len(m.Table.Entries)) {
			checkLoad(t, c[0], m, addr, 0, 1)
		}
	}
}

// The smallest and the largest value are values like any others.
func TestLoadOfExtremeValues(t *testing.T) {
	m := machineOf("w1 r0", "xx")
	for _, v := range []int{0, 1, 998, 999} {
		withCell(m.Frames, 1, 0, v)
		withCell(m.Frames, 0, 15, v)
		checkLoad(t, "the first cell", m, 0, v, 0)
		checkLoad(t, "the last cell", m, 31, v, 0)
	}
}

func TestInvalidMachines(t *testing.T) {
	for name, m := range badMachines() {
		for page := range max(len(m.Table.Entries), 4) {
			checkPageText(t, name, m, page, nil)
			for _, at := range []int{0, 7, 15} {
				checkLoad(t, name, m, 16*page+at, 0, 1)
				for _, v := range []int{5, -1, 1000} {
					checkFault(t, name, m, 16*page+at, v, 1)
				}
			}
		}
		for _, addr := range []int{-1, math.MinInt, math.MaxInt} {
			checkLoad(t, name, m, addr, 0, 1)
			checkFault(t, name, m, addr, 5, 1)
			checkPageText(t, name, m, addr, nil)
		}
	}
}

// A store changes the cell that it names and nothing else, in its frame, in the other frames and in the table.
func TestStore(t *testing.T) {
	cases := [][2]string{
		{"w0", "x"}, {"w3 . r0 w1", "xx.x"}, {". w2 r2 . w0 r2 w2", "x.x"}, {"w1 w0", "xx"},
		{pagesOf(31, ".") + "w7", noted(7, '.') + "x"}, {"w31 " + pagesOf(30, ".") + "w0", "x" + noted(30, '.') + "x"},
	}
	for _, c := range cases {
		for page, e := range tableOf(c[0]).Entries {
			for at := range 16 {
				for _, v := range []int{0, 1, 500, 998, 999} {
					m, want := machineOf(c[0], c[1]), machineOf(c[0], c[1])
					if e.Mode == 2 {
						want.Frames.Cells[e.Frame][at] = v
					}
					checkStore(t, c[0], m, 16*page+at, v, want, []int{1, 2, 0}[e.Mode])
				}
			}
		}
	}
}

// A stored value is loaded at the same cell of every page of the frame, for reading only or not, and at no other address.
func TestStoredValueIsLoadedAtEachPageOfTheFrame(t *testing.T) {
	const words, used = "w2 r1 r2 . w2 w0 w1 r2", "xxx."
	table := tableOf(words)
	for page, e := range table.Entries {
		if e.Mode != 2 {
			continue
		}
		for at := range 16 {
			const v = 987
			m, fault := impl.Store(machineOf(words, used), 16*page+at, v)
			if fault != 0 || !impl.MachineOk(m) {
				t.Errorf("Store(%d, %d) has the fault %d, or its result is not valid", 16*page+at, v, fault)
			}
			for addr := range 16 * len(table.Entries) {
				other := table.Entries[addr/16]
				switch {
				case other.Mode == 0:
					checkLoad(t, "not mapped", m, addr, 0, 1)
				case other.Frame == e.Frame && addr%16 == at:
					checkLoad(t, "the same cell", m, addr, v, 0)
				default:
					checkLoad(t, "another cell", m, addr, 100*other.Frame+addr%16, 0)
				}
			}
		}
	}
}

func TestStoreRejectsAddresses(t *testing.T) {
	for _, c := range [][2]string{{"w0", "x"}, {"w3 . r0 w1", "xx.x"}, {pagesOf(32, "w31"), noted(31, '.') + "x"}, {pagesOf(16, "w0 ."), "x"}} {
		m := machineOf(c[0], c[1])
		for _, addr := range noAddresses(len(m.Table.Entries)) {
			checkFault(t, c[0], m, addr, 7, 1)
			checkFault(t, c[0], m, addr, 0, 1)
		}
	}
}

func TestStoreRejectsValues(t *testing.T) {
	m := machineOf("w3 . r0 w1", "xx.x")
	for _, v := range badValues() {
		for _, addr := range []int{0, 7, 15, 48, 63} {
			checkFault(t, "no such value", m, addr, v, 3)
		}
	}
}

// Of several faults that apply, the first one in the order FtPage, FtWrite, FtValue is returned.
func TestOrderOfFaults(t *testing.T) {
	valid := machineOf("w3 . r0 w1", "xx.x")
	invalid := machineOf("w3 . r0 w1", "xxxx")
	for _, at := range []int{0, 8, 15} {
		checkFault(t, "FtWrite alone", valid, 32+at, 7, 2)
		checkFault(t, "FtPage alone, not mapped", valid, 16+at, 7, 1)
		checkFault(t, "FtPage alone, not valid", invalid, at, 7, 1)
		checkFault(t, "FtPage and FtWrite", invalid, 32+at, 7, 1)
		for _, v := range badValues() {
			checkFault(t, "FtValue alone", valid, at, v, 3)
			checkFault(t, "FtPage and FtValue, not mapped", valid, 16+at, v, 1)
			checkFault(t, "FtPage and FtValue, not valid", invalid, at, v, 1)
			checkFault(t, "FtPage and FtValue, not valid and not mapped", invalid, 16+at, v, 1)
			checkFault(t, "FtWrite and FtValue", valid, 32+at, v, 2)
			checkFault(t, "all three", invalid, 32+at, v, 1)
		}
	}
	for _, addr := range noAddresses(4) {
		for _, v := range badValues() {
			checkFault(t, "FtPage and FtValue, no such page", valid, addr, v, 1)
		}
	}
}

// A page for reading only is loaded and never stored to, also where another page of its frame is for writing.
func TestReadOnlyPages(t *testing.T) {
	m := machineOf("r0 w0 r1", "xx")
	for at := range 16 {
		checkLoad(t, "read only", m, at, at, 0)
		checkLoad(t, "the only page of its frame", m, 32+at, 100+at, 0)
		// The cell has this value already; it is a fault all the same.
		checkFault(t, "the same value", m, at, at, 2)
		checkFault(t, "read only", m, at, 999, 2)
		checkFault(t, "the only page of its frame", m, 32+at, 0, 2)
	}
}

func TestPageText(t *testing.T) {
	for _, c := range [][2]string{{"w0", "x"}, {"r0", "x"}, {"w3 . r0 w1 r3", "xx.x"}, {pagesOf(31, ".") + "r7", noted(7, '.') + "x"}, {pagesOf(32, "w31"), noted(31, '.') + "x"}} {
		m := machineOf(c[0], c[1])
		for page, e := range m.Table.Entries {
			if e.Mode == 0 {
				checkPageText(t, c[0], m, page, nil)
			} else {
				checkPageText(t, c[0], m, page, framesOf(c[1]).Cells[e.Frame])
			}
		}
		for _, page := range noPages(len(m.Table.Entries)) {
			checkPageText(t, c[0], m, page, nil)
		}
	}
}

// Frames of an argument may share memory; those of a result do not, so that a store changes one frame.
func TestMachineWhoseFramesShareMemory(t *testing.T) {
	shared := make([]int, 16)
	m := impl.Machine{Frames: impl.Frames{Cells: [][]int{shared, shared}, Used: []bool{true, true}}, Table: tableOf("w0 w1")}
	got, fault := impl.Store(m, 20, 9)
	if fault != 0 || got.Frames.Cells[1][4] != 9 || got.Frames.Cells[0][4] != 0 || shared[4] != 0 {
		t.Error("after the store:", got, shared, fault)
	}
}

// A walk through stores and changes of mappings ends with the values that a plain list of cells has.
func TestMachineWalk(t *testing.T) {
	const pages, frames = 7, 4
	m := machineOf("w2 r1 r2 . w2 w0 w1", "xxx.")
	seed := 7
	for step := range 3000 {
		seed = seedAfter(seed)
		addr, v := seed>>8%(16*pages+4)-2, seed>>18%1006-3
		cells, entries := framesOf("xxx.").Cells, m.Table.Entries
		for frame := range frames {
			copy(cells[frame], m.Frames.Cells[frame])
		}
		want := 0
		switch {
		case addr < 0 || addr >= 16*pages || entries[addr/16].Mode == 0:
			want = 1
		case entries[addr/16].Mode == 1:
			want = 2
		case v < 0 || v > 999:
			want = 3
		default:
			cells[entries[addr/16].Frame][addr%16] = v
		}
		next, fault := impl.Store(m, addr, v)
		if fault != want || !sameTable(next.Table, m.Table) {
			t.Fatalf("step %d: Store(%d, %d) has the fault %d, want %d, or has changed the table", step, addr, v, fault, want)
		}
		checkAgainstCells(t, step, next, cells)
		m = remapped(next, step, seed)
	}
}

// remapped moves one of the last four pages to another frame or mode; the first three keep each of the used frames mapped.
func remapped(m impl.Machine, step int, seed int) impl.Machine {
	if step%5 != 0 {
		return m
	}
	e := entryOf(seed>>12%3, seed>>16%3)
	if e.Mode == 0 {
		e = unmapped
	}
	m.Table, _ = impl.SetPage(m.Table, 3+seed>>20%4, e)
	m.Table, _ = impl.SetPage(m.Table, 0, entryOf(2, 0))
	m.Table, _ = impl.SetPage(m.Table, 1, entryOf(1+seed>>24%2, 1))
	return m
}

// checkAgainstCells compares what each address and each page of a machine has with the cells of its frames.
func checkAgainstCells(t *testing.T, step int, m impl.Machine, cells [][]int) {
	t.Helper()
	if !impl.MachineOk(m) {
		t.Fatalf("step %d: the machine is not valid: %v", step, m)
	}
	for page, e := range m.Table.Entries {
		var text []int
		if e.Mode != 0 {
			text = cells[e.Frame]
		}
		if got := impl.PageText(m, page); !slices.Equal(got, text) {
			t.Fatalf("step %d: page %d has %v, want %v", step, page, got, text)
		}
		for at := range 16 {
			v, fault := 0, 1
			if e.Mode != 0 {
				v, fault = text[at], 0
			}
			if got, code := impl.Load(m, 16*page+at); got != v || code != fault {
				t.Fatalf("step %d: Load(%d) = %d, %d, want %d, %d", step, 16*page+at, got, code, v, fault)
			}
		}
	}
}
