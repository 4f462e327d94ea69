package impl

import (
	"strconv"
	"strings"
)

const (
	MaxInputLen      = 20000
	MaxUint          = 1000000000
	MaxLineLen       = 600
	MaxFieldsPerLine = 24
)

const hexDigits = "0123456789abcdef"

// EncodeHex returns the lowercase hexadecimal encoding of s, or false if s is longer than MaxInputLen.
func EncodeHex(s string) (string, bool) {
	if len(s) > MaxInputLen {
		return "", false
	}
	digits := make([]byte, 0, 2*len(s))
	for i := range len(s) {
		digits = append(digits, hexDigits[s[i]/16], hexDigits[s[i]%16])
	}
	return string(digits), true
}

// DecodeHex returns the string whose EncodeHex is s, or false if there is none.
func DecodeHex(s string) (string, bool) {
	if len(s)%2 != 0 || len(s) > 2*MaxInputLen {
		return "", false
	}
	decoded := make([]byte, 0, len(s)/2)
	for i := 0; i < len(s); i += 2 {
		high := strings.IndexByte(hexDigits, s[i])
		low := strings.IndexByte(hexDigits, s[i+1])
		if high < 0 || low < 0 {
			return "", false
		}
		decoded = append(decoded, byte(16*high+low))
	}
	return string(decoded), true
}

// FormatInt returns n in decimal.
func FormatInt(n int) string {
	return strconv.Itoa(n)
}

// ParseUint returns the number from 0 to MaxUint whose FormatInt is s, or false if there is none.
func ParseUint(s string) (int, bool) {
	n, err := strconv.Atoi(s)
	// Atoi also reads signs and leading zeros, which FormatInt would not write.
	if err != nil || n < 0 || n > MaxUint || FormatInt(n) != s {
		return 0, false
	}
	return n, true
}

// SplitFields returns the fields of a line, which spaces separate, or false if line is not a line within the limits.
func SplitFields(line string) ([]string, bool) {
	if len(line) > MaxLineLen {
		return nil, false
	}
	fields := []string{}
	start, at := 0, 0
scan:
	for ; at < len(line); at++ {
		switch b := line[at]; {
		case b == ' ':
			fields = appendField(fields, line[start:at])
			start = at + 1
		case b < ' ' || b > '~':
			break scan
		}
	}
	if at < len(line) {
		return nil, false
	}
	fields = appendField(fields, line[start:])
	if len(fields) > MaxFieldsPerLine {
		return nil, false
	}
	return fields, true
}

// appendField appends a field; between two spaces that follow each other there is none.
func appendField(fields []string, field string) []string {
	if field == "" {
		return fields
	}
	// A part of the line would share its memory.
	return append(fields, strings.Clone(field))
}

// Clamp returns n clamped to the range low to high, or low if high is less than low.
func Clamp(n int, low int, high int) int {
	return max(low, min(n, high))
}
