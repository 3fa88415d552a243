package impl

import (
	"strconv"
	"strings"
)

const MaxNum = 100000

func FormatInt(n int) string {
	if n < -MaxNum || n > MaxNum {
		return ""
	}
	return strconv.Itoa(n)
}

func ParseInt(s string) (int, bool) {
	n := 0
	for at, r := range s {
		if at == 0 && r == '-' {
			continue
		}
		if !isDigit(r) {
			return 0, false
		}
		n = 10*n + int(r-'0')
		// Stops here, because a longer number could overflow.
		if n > MaxNum {
			return 0, false
		}
	}
	if strings.HasPrefix(s, "-") {
		n = -n
	}
	// Rejects another spelling of the same number: "", "-", "-0", "01".
	if FormatInt(n) != s {
		return 0, false
	}
	return n, true
}

func IsName(s string) bool {
	if len(s) < 1 || len(s) > 8 {
		return false
	}
	for at, r := range s {
		if !isLower(r) && (at == 0 || !isDigit(r)) {
			return false
		}
	}
	return true
}

func SplitAny(s string, by string) []string {
	var parts []string
	from := 0
	// Bytes, not runes: a byte of by may be a part of a longer character of s.
	for at := range len(s) {
		if strings.IndexByte(by, s[at]) >= 0 {
			parts = append(parts, strings.Clone(s[from:at]))
			from = at + 1
		}
	}
	return append(parts, strings.Clone(s[from:]))
}

func Join(l []string, by string) string {
	return joinAll(by, l...)
}

func SplitLines(s string) []string {
	lines := SplitAny(s, "\n")
	last := len(lines) - 1
	if lines[last] == "" {
		return lines[:last]
	}
	return lines
}

func FormatInts(l []int) string {
	if len(l) == 0 {
		return "-"
	}
	parts := make([]string, len(l))
	for i, n := range l {
		parts[i] = FormatInt(n)
		if parts[i] == "" {
			return ""
		}
	}
	return joinAll(",", parts...)
}

func ParseInts(s string) ([]int, bool) {
	if s == "-" {
		return nil, true
	}
	var l []int
	for _, part := range SplitAny(s, ",") {
		n, ok := ParseInt(part)
		if !ok {
			return nil, false
		}
		l = append(l, n)
	}
	return l, true
}

func joinAll(by string, parts ...string) string {
	var text strings.Builder
	for i, part := range parts {
		if i > 0 {
			text.WriteString(by)
		}
		text.WriteString(part)
	}
	return text.String()
}

func isDigit(r rune) bool {
	return r >= '0' && r <= '9'
}

func isLower(r rune) bool {
	return r >= 'a' && r <= 'z'
}
