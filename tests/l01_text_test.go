package tests

import (
	"math"
	"slices"
	"strconv"
	"strings"
	"testing"
	"unsafe"

	"loop.example/g00978/impl"
)

func allBytes() string {
	b := make([]byte, 256)
	for i := range b {
		b[i] = byte(i)
	}
	return string(b)
}

// texts returns all strings of at most most bytes of an alphabet.
func texts(alphabet string, most int) []string {
	all := []string{""}
	from := 0
	for range most {
		end := len(all)
		for _, t := range all[from:end] {
			for i := range len(alphabet) {
				all = append(all, t+alphabet[i:i+1])
			}
		}
		from = end
	}
	return all
}

func TestTextLimits(t *testing.T) {
	if impl.MaxInputLen != 20000 || impl.MaxUint != 1000000000 || impl.MaxLineLen != 600 || impl.MaxFieldsPerLine != 24 {
		t.Error("limits", impl.MaxInputLen, impl.MaxUint, impl.MaxLineLen, impl.MaxFieldsPerLine)
	}
}

func TestEncodeHex(t *testing.T) {
	cases := []struct{ s, want string }{
		{"", ""},
		{"az", "617a"},
		{"\x00", "00"},
		{"\x0f\xf0", "0ff0"},
		{"\xff\xab", "ffab"},
		{"é", "c3a9"},
		{strings.Repeat("\xa5", impl.MaxInputLen), strings.Repeat("a5", impl.MaxInputLen)},
	}
	for _, c := range cases {
		if got, ok := impl.EncodeHex(c.s); !ok || got != c.want {
			t.Errorf("EncodeHex(%.20q) = %.20q, %v", c.s, got, ok)
		}
	}
	if got, ok := impl.EncodeHex(strings.Repeat("a", impl.MaxInputLen+1)); ok || got != "" {
		t.Errorf("EncodeHex past the limit = %.20q, %v", got, ok)
	}
}

func TestDecodeHex(t *testing.T) {
	cases := []struct{ s, want string }{
		{"", ""},
		{"617a", "az"},
		{"00", "\x00"},
		{"0ff0", "\x0f\xf0"},
		{"c3a9", "é"},
		{strings.Repeat("a5", impl.MaxInputLen), strings.Repeat("\xa5", impl.MaxInputLen)},
	}
	for _, c := range cases {
		if got, ok := impl.DecodeHex(c.s); !ok || got != c.want {
			t.Errorf("DecodeHex(%.20q) = %.20q, %v", c.s, got, ok)
		}
	}
}

func TestDecodeHexRejects(t *testing.T) {
	bad := []string{
		"6", "617", "617a6", "617A", "FF", "fF", "Ff", "0g", "g0", "0x61", " 61", "61 ", "61 7a", "61\n7", "é", "-1", "+1",
		strings.Repeat("61", impl.MaxInputLen+1),
		strings.Repeat("61", impl.MaxInputLen) + "6",
		strings.Repeat("61", impl.MaxInputLen-1) + "6x",
	}
	for _, s := range bad {
		if got, ok := impl.DecodeHex(s); ok || got != "" {
			t.Errorf("DecodeHex(%.20q) = %.20q, %v", s, got, ok)
		}
	}
}

// Every string is decoded from its text, and from no other text.
func TestHexRoundTrip(t *testing.T) {
	for _, s := range texts(allBytes(), 2) {
		h, ok := impl.EncodeHex(s)
		back, right := impl.DecodeHex(h)
		if !ok || !right || back != s {
			t.Fatalf("%q is encoded as %q, %v and decoded as %q, %v", s, h, ok, back, right)
		}
		if d, ok := impl.DecodeHex(s); ok {
			if again, _ := impl.EncodeHex(d); again != s {
				t.Fatalf("DecodeHex(%q) = %q, which is encoded as %q", s, d, again)
			}
		} else if d != "" {
			t.Fatalf("DecodeHex(%q) = %q, false", s, d)
		}
	}
	whole := allBytes()
	h, _ := impl.EncodeHex(whole)
	if back, ok := impl.DecodeHex(h); !ok || back != whole {
		t.Errorf("all bytes are decoded as %q, %v", back, ok)
	}
}

func TestFormatInt(t *testing.T) {
	cases := []struct {
		n    int
		want string
	}{
		{0, "0"}, {7, "7"}, {-5, "-5"}, {10, "10"}, {-100, "-100"}, {123456789, "123456789"},
		{impl.MaxUint, "1000000000"},
		{math.MaxInt, "9223372036854775807"},
		{math.MinInt, "-9223372036854775808"},
		{math.MinInt + 1, "-9223372036854775807"},
	}
	for _, c := range cases {
		if got := impl.FormatInt(c.n); got != c.want {
			t.Errorf("FormatInt(%d) = %q", c.n, got)
		}
	}
}

func TestParseUint(t *testing.T) {
	for _, n := range []int{0, 1, 9, 10, 100, 101, 999, 123456789, impl.MaxUint - 1, impl.MaxUint} {
		if got, ok := impl.ParseUint(impl.FormatInt(n)); !ok || got != n {
			t.Errorf("ParseUint of %d = %d, %v", n, got, ok)
		}
	}
}

func TestParseUintRejects(t *testing.T) {
	bad := []string{
		"", "01", "00", "007", "0000000001", "01000000000", "-1", "-0", "-5", "+1", "+0", "-", "+", " ", " 1", "1 ", "1 2", "1\n", "\t1",
		"a", "1a", "a1", "0x1", "0b1", "0o7", "1e3", "1.0", "1_000", "_1", "1,000", "\x001", "1\x00", "\uff11", "\u0661", "\xff",
		"1000000001", "1000000010", "9999999999", "10000000000", "4294967296", "4294967297",
		"9223372036854775807", "9223372036854775808", "18446744073709551616", "18446744073709551617",
		strings.Repeat("0", 30), strings.Repeat("0", 30) + "1", strings.Repeat("1", 1000),
	}
	for _, s := range bad {
		if got, ok := impl.ParseUint(s); ok || got != 0 {
			t.Errorf("ParseUint(%.30q) = %d, %v", s, got, ok)
		}
	}
}

// Of all short strings, ParseUint accepts exactly those that FormatInt makes.
func TestParseUintOfShortTexts(t *testing.T) {
	numbers := map[string]int{}
	for n := range 10000 {
		numbers[impl.FormatInt(n)] = n
	}
	for _, s := range texts("0129+-_ x/:", 4) {
		want, number := numbers[s]
		if got, ok := impl.ParseUint(s); ok != number || got != want {
			t.Fatalf("ParseUint(%q) = %d, %v", s, got, ok)
		}
	}
}

func TestSplitFields(t *testing.T) {
	printable := allBytes()[33:127]
	cases := []struct {
		line string
		want []string
	}{
		{"", nil},
		{" ", nil},
		{"     ", nil},
		{"step", []string{"step"}},
		{"step 1", []string{"step", "1"}},
		{" step  1 ", []string{"step", "1"}},
		{"   a   bc def   ", []string{"a", "bc", "def"}},
		{"a,b;c -1 \"x y\"", []string{"a,b;c", "-1", "\"x", "y\""}},
		{printable, []string{printable}},
		{strings.Repeat(" ", impl.MaxLineLen), nil},
		{strings.Repeat("a", impl.MaxLineLen), []string{strings.Repeat("a", impl.MaxLineLen)}},
		{strings.Repeat(" ", impl.MaxLineLen-1) + "a", []string{"a"}},
	}
	for _, c := range cases {
		if got, ok := impl.SplitFields(c.line); !ok || !slices.Equal(got, c.want) {
			t.Errorf("SplitFields(%.30q) = %.60q, %v", c.line, got, ok)
		}
	}
}

func TestSplitFieldsRejectsLongLines(t *testing.T) {
	long := []string{
		strings.Repeat("a", impl.MaxLineLen+1),
		strings.Repeat(" ", impl.MaxLineLen+1),
		"a" + strings.Repeat(" ", impl.MaxLineLen),
		strings.Repeat(" ", impl.MaxLineLen) + "a",
		strings.Repeat("a", impl.MaxInputLen),
	}
	for _, line := range long {
		if got, ok := impl.SplitFields(line); ok || len(got) != 0 {
			t.Errorf("SplitFields of %d bytes = %.60q, %v", len(line), got, ok)
		}
	}
}

func TestSplitFieldsCountsFields(t *testing.T) {
	for n := range 2 * impl.MaxFieldsPerLine {
		want := []string{}
		for i := range n {
			want = append(want, strconv.Itoa(i))
		}
		for _, line := range []string{strings.Join(want, " "), "  " + strings.Join(want, "  ") + "  "} {
			got, ok := impl.SplitFields(line)
			if n <= impl.MaxFieldsPerLine && (!ok || !slices.Equal(got, want)) {
				t.Errorf("SplitFields of %d fields = %q, %v", n, got, ok)
			}
			if n > impl.MaxFieldsPerLine && (ok || len(got) != 0) {
				t.Errorf("SplitFields of %d fields = %q, %v", n, got, ok)
			}
		}
	}
}

// Each byte outside the range 32 to 126 is rejected, wherever it is, and no other one.
func TestSplitFieldsChecksBytes(t *testing.T) {
	for b := range 256 {
		c := string([]byte{byte(b)})
		for _, line := range []string{c, c + "ab", "a" + c + "b", "ab" + c, "a " + c, c + " a", "a b " + c + " c"} {
			got, ok := impl.SplitFields(line)
			if ok != (b >= 32 && b <= 126) || !ok && len(got) != 0 {
				t.Errorf("SplitFields(%q) = %q, %v", line, got, ok)
			}
		}
	}
	for _, line := range []string{"é", "a\u00a0b", "a\tb", "a\nb", "a\r"} {
		if got, ok := impl.SplitFields(line); ok || len(got) != 0 {
			t.Errorf("SplitFields(%q) = %q, %v", line, got, ok)
		}
	}
}

// Of all short lines, the fields are what the spaces leave.
func TestSplitFieldsOfShortLines(t *testing.T) {
	for _, line := range texts(" a1", 7) {
		if got, ok := impl.SplitFields(line); !ok || !slices.Equal(got, strings.Fields(line)) {
			t.Fatalf("SplitFields(%q) = %q, %v", line, got, ok)
		}
	}
}

func TestSplitFieldsReturnsNewMemory(t *testing.T) {
	line := strings.Repeat("ab ", 3)
	first, _ := impl.SplitFields(line)
	first[0] = "changed"
	second, _ := impl.SplitFields(line)
	if !slices.Equal(second, []string{"ab", "ab", "ab"}) {
		t.Errorf("SplitFields(%q) = %q after a change of an earlier result", line, second)
	}
	start := uintptr(unsafe.Pointer(unsafe.StringData(line)))
	for _, f := range second {
		if p := uintptr(unsafe.Pointer(unsafe.StringData(f))); p >= start && p < start+uintptr(len(line)) {
			t.Errorf("the field %q is a part of the line", f)
		}
	}
}

func TestClamp(t *testing.T) {
	cases := []struct{ n, low, high, want int }{
		{9, 1, 5, 5}, {0, 1, 5, 1}, {3, 1, 5, 3}, {1, 1, 5, 1}, {5, 1, 5, 5},
		{-9, -5, -1, -5}, {0, -5, -1, -1}, {7, 4, 4, 4}, {4, 4, 4, 4}, {1, 4, 4, 4},
		{3, 5, 1, 5}, {9, 5, 1, 5}, {0, 5, 1, 5}, {5, 5, 4, 5}, {4, 5, 4, 5},
		{math.MinInt, -1, 1, -1}, {math.MaxInt, -1, 1, 1},
		{math.MinInt, math.MinInt, math.MaxInt, math.MinInt},
		{math.MaxInt, math.MinInt, math.MaxInt, math.MaxInt},
		{0, math.MaxInt, math.MinInt, math.MaxInt},
	}
	for _, c := range cases {
		if got := impl.Clamp(c.n, c.low, c.high); got != c.want {
			t.Errorf("Clamp(%d, %d, %d) = %d, want %d", c.n, c.low, c.high, got, c.want)
		}
	}
}

// The result is in the range, and n itself if n is in the range.
func TestClampInRange(t *testing.T) {
	for low := -4; low <= 4; low++ {
		for high := -4; high <= 4; high++ {
			for n := -6; n <= 6; n++ {
				got := impl.Clamp(n, low, high)
				inside := n >= low && n <= high
				if high < low && got != low || high >= low && (got < low || got > high) || inside && got != n || n < low && got != low || n > high && high >= low && got != high {
					t.Errorf("Clamp(%d, %d, %d) = %d", n, low, high, got)
				}
			}
		}
	}
}
