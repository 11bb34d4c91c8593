package line_test

import (
	"fmt"
	"slices"
	"strings"
	"testing"
)

// spelt is a row from how its channels are spelt: '+' is 1, '-' is -1, '2' to '9' themselves, '=' is -2, the rest 0.
func spelt(first, second string) []complex128 {
	row := make([]complex128, max(len(first), len(second)))
	for i := range row {
		row[i] = complex(mark(first, i), mark(second, i))
	}
	return row
}

func mark(s string, i int) float64 {
	switch {
	case i >= len(s):
		return 0
	case s[i] == '+':
		return 1
	case s[i] == '-':
		return -1
	case s[i] == '=':
		return -2
	case s[i] >= '2' && s[i] <= '9':
		return float64(s[i] - '0')
	}
	return 0
}

// signs spells bytes as a channel does, by Go's own binary numbers.
func signs(b []byte) string {
	var s strings.Builder
	for _, x := range b {
		s.WriteString(fmt.Sprintf("%08b", x))
	}
	return strings.NewReplacer("0", "-", "1", "+").Replace(s.String())
}

func noughts(n int) string { return strings.Repeat("0", n) }

// some is n bytes of which neighbours are unlike.
func some(n int) []byte {
	b := make([]byte, n)
	for i := range b {
		b[i] = byte(i*37 + 11)
	}
	return b
}

func wantRow(t *testing.T, name string, got, want []complex128) {
	t.Helper()
	if !slices.Equal(got, want) {
		t.Errorf("%s: got %v, want %v", name, got, want)
	}
}
