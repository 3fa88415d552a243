package tests

import (
	"math"
	"regexp"
	"strconv"
	"strings"
	"testing"

	"loop.example/g00806/impl"
)

// The patterns of the texts that chapter 2 permits, independent of the program: a number without superfluous characters and a name.
var numberPattern = regexp.MustCompile(`\A(0|-?[1-9][0-9]*)\z`)
var namePattern = regexp.MustCompile(`\A[a-z][a-z0-9]{0,7}\z`)

// numberOf returns the number that a text stands for according to chapter 2.
func numberOf(s string) (int, bool) {
	if len(s) > 7 || !numberPattern.MatchString(s) {
		return 0, false
	}
	n, err := strconv.Atoi(s)
	if err != nil || n < -100000 || n > 100000 {
		return 0, false
	}
	return n, true
}

// listOf returns the list that a text stands for according to chapter 2.
func listOf(s string) ([]int, bool) {
	if s == "-" {
		return nil, true
	}
	var l []int
	for _, part := range strings.Split(s, ",") {
		n, ok := numberOf(part)
		if !ok {
			return nil, false
		}
		l = append(l, n)
	}
	return l, true
}

func checkParseInt(t *testing.T, s string) {
	t.Helper()
	want, wantOk := numberOf(s)
	if n, ok := impl.ParseInt(s); n != want || ok != wantOk {
		t.Errorf("ParseInt(%q) = %d, %v, want %d, %v", s, n, ok, want, wantOk)
	}
}

func checkParseInts(t *testing.T, s string) {
	t.Helper()
	want, wantOk := listOf(s)
	l, ok := impl.ParseInts(s)
	if ok != wantOk || !ok && l != nil {
		t.Errorf("ParseInts(%q) = %v, %v, want %v, %v", s, l, ok, want, wantOk)
	}
	same(t, callOf("ParseInts", s), l, want)
}

func TestMaxNum(t *testing.T) {
	if impl.MaxNum != 100000 {
		t.Errorf("MaxNum = %d", impl.MaxNum)
	}
}

func TestP1NumbersAreRecovered(t *testing.T) {
	for n := -impl.MaxNum; n <= impl.MaxNum; n++ {
		s := impl.FormatInt(n)
		if s != strconv.Itoa(n) {
			t.Fatalf("FormatInt(%d) = %q", n, s)
		}
		if m, ok := impl.ParseInt(s); m != n || !ok {
			t.Fatalf("ParseInt(%q) = %d, %v", s, m, ok)
		}
	}
}

func TestP1ListsAreRecovered(t *testing.T) {
	values := []int{-impl.MaxNum, -10, -1, 0, 1, 7, 42, impl.MaxNum}
	lists := [][]int{nil}
	for at := 0; at < len(lists); at++ {
		l := lists[at]
		s := impl.FormatInts(l)
		back, ok := impl.ParseInts(s)
		if !ok {
			t.Fatalf("ParseInts(%q) fails, the text of %v", s, l)
		}
		same(t, callOf("ParseInts", s), back, l)
		for _, n := range values {
			if len(l) < 4 {
				lists = append(lists, append(append([]int{}, l...), n))
			}
		}
	}
}

func TestP1LongListIsRecovered(t *testing.T) {
	var l []int
	for n := range 5000 {
		l = append(l, n*37-impl.MaxNum)
	}
	back, ok := impl.ParseInts(impl.FormatInts(l))
	if !ok {
		t.Fatal("ParseInts fails for a list of 5000 numbers")
	}
	same(t, "ParseInts of 5000 numbers", back, l)
}

func TestP15FormatIntOutOfRange(t *testing.T) {
	for _, n := range []int{impl.MaxNum + 1, -impl.MaxNum - 1, 999999, -999999, math.MaxInt, math.MinInt, math.MinInt + 1} {
		if s := impl.FormatInt(n); s != "" {
			t.Errorf("FormatInt(%d) = %q, want the empty string", n, s)
		}
	}
}

func TestP15ParseIntTable(t *testing.T) {
	good := map[string]int{"0": 0, "7": 7, "-7": -7, "10": 10, "99999": 99999, "100000": 100000, "-100000": -100000}
	for s, want := range good {
		if n, ok := impl.ParseInt(s); n != want || !ok {
			t.Errorf("ParseInt(%q) = %d, %v, want %d, true", s, n, ok, want)
		}
	}
	bad := []string{
		"", "-", "+", "-0", "+0", "+1", "00", "01", "-01", "--1", "1-", "1-1", "-+1",
		"100001", "-100001", "1000000", "0100000", "999999999999", "-999999999999",
		" 1", "1 ", "1\n", "\t1", "1.0", "1e3", "0x1", "1_000", "a", "1a",
		"9223372036854775807", "9223372036854775808", "-9223372036854775808",
		"18446744073709551616", "18446744073709551617", "-18446744073709551617",
		"\x00", "1\x00", "\xff", "1\xff", "\xff1", "-\xff", "\xe2\x88\x92\x31", "\u0661", "\uff11", "1\u0661", "\ufffd", "1\xd9",
	}
	for _, s := range bad {
		if n, ok := impl.ParseInt(s); n != 0 || ok {
			t.Errorf("ParseInt(%q) = %d, %v, want 0, false", s, n, ok)
		}
	}
}

func TestP15ParseIntOnEveryByte(t *testing.T) {
	for b := range 256 {
		one := string([]byte{byte(b)})
		for _, s := range []string{one, "1" + one, one + "1", "-" + one, "12" + one + "3"} {
			checkParseInt(t, s)
		}
	}
}

func TestP15ParseIntOnShortTexts(t *testing.T) {
	for _, s := range texts([]string{"-", "+", "0", "1", "9", ",", " ", "\n", "\xff", "\u0661"}, 4) {
		checkParseInt(t, s)
	}
}

func TestP15ParseIntOnLongTexts(t *testing.T) {
	for _, digit := range []string{"0", "1", "9", "-", "\xff"} {
		for size := 1; size <= 80; size++ {
			s := strings.Repeat(digit, size)
			checkParseInt(t, s)
			checkParseInt(t, "-"+s)
			checkParseInt(t, s+"7")
			checkParseInt(t, "7"+s)
		}
		checkParseInt(t, strings.Repeat(digit, 1000000))
	}
}

func TestP15IsName(t *testing.T) {
	for _, s := range []string{"a", "z", "x1", "a0", "z9", "a00000", "abcdefgh", "a1234567"} {
		if !impl.IsName(s) {
			t.Errorf("IsName(%q) = false", s)
		}
	}
	bad := []string{
		"", "1", "0a", "1x", "A", "aB", "a-b", "a_b", "a b", " a", "a ", "a\n", "\n", "-", "a:", "a/", "a`", "a{", "`", "{",
		"abcdefghi", "a12345678", "\u00e9", "a\u00e9", "\xff", "a\xff", "\xffa", "a\x00", "a\u0661", "\ufffd", "a\ufffd", "\u00e9a",
	}
	for _, s := range bad {
		if impl.IsName(s) {
			t.Errorf("IsName(%q) = true", s)
		}
	}
}

func TestP15IsNameOnShortTexts(t *testing.T) {
	all := texts([]string{"a", "m", "z", "0", "9", "A", "-", "\xff", "\u00e9"}, 4)
	for b := range 256 {
		one := string([]byte{byte(b)})
		all = append(all, one, "a"+one, one+"a", "abcdefg"+one, "abcdefgh"+one)
	}
	for _, s := range all {
		if got, want := impl.IsName(s), namePattern.MatchString(s); got != want {
			t.Errorf("IsName(%q) = %v, want %v", s, got, want)
		}
	}
}

func TestP15SplitAny(t *testing.T) {
	cases := []struct {
		s, by string
		want  []string
	}{
		{"", "", []string{""}},
		{"", ",", []string{""}},
		{"abc", "", []string{"abc"}},
		{"abc", ",", []string{"abc"}},
		{"a,b,c", ",", []string{"a", "b", "c"}},
		{"a,b c", ", ", []string{"a", "b", "c"}},
		{"a, b", ", ", []string{"a", "", "b"}},
		{",", ",", []string{"", ""}},
		{",,", ",", []string{"", "", ""}},
		{",a,", ",", []string{"", "a", ""}},
		{"a,,b", ",", []string{"a", "", "b"}},
		{"a,b", ",,", []string{"a", "b"}},
		{"aaa", "a", []string{"", "", "", ""}},
		{"a\x00b", "\x00", []string{"a", "b"}},
		{"a\xffb", "\xff", []string{"a", "b"}},
		{"a\xff\xfeb", "\xfe", []string{"a\xff", "b"}},
		{"a\xffb", "\xfe", []string{"a\xffb"}},
		{"a\xffb", "\ufffd", []string{"a\xffb"}},
		{"\u00e9", "\xa9", []string{"\xc3", ""}},
		{"\u00e9", "\xc3", []string{"", "\xa9"}},
		{"a\u00e9b", "\u00e9", []string{"a", "", "b"}},
		{"\u00e8", "\u00e9", []string{"", "\xa8"}},
		{"\u00e9,\u00e8", ",", []string{"\u00e9", "\u00e8"}},
	}
	for _, c := range cases {
		same(t, callOf("SplitAny", c.s, c.by), impl.SplitAny(c.s, c.by), c.want)
	}
}

func TestP15SplitAnyAtEveryByte(t *testing.T) {
	every := make([]byte, 256)
	for b := range every {
		every[b] = byte(b)
	}
	s := string(every)
	for b := range 256 {
		by := string(every[b : b+1])
		same(t, callOf("SplitAny", "every byte", by), impl.SplitAny(s, by), []string{s[:b], s[b+1:]})
	}
	if got := impl.SplitAny(s, s); len(got) != 257 {
		t.Errorf("256 separators: %d elements, want 257", len(got))
	}
}

func TestP15SplitAnyCountsAndKeepsAllOtherBytes(t *testing.T) {
	for _, s := range texts([]string{"a", ",", ";", "\xff", "\u00e9"}, 5) {
		for _, by := range []string{"", ",", ",;", ";,;", "\xa9", "\xff,"} {
			parts := impl.SplitAny(s, by)
			others, seps := []byte{}, 0
			for _, b := range []byte(s) {
				if strings.IndexByte(by, b) >= 0 {
					seps++
				} else {
					others = append(others, b)
				}
			}
			if len(parts) != seps+1 || strings.Join(parts, "") != string(others) {
				t.Errorf("SplitAny(%q, %q) = %q", s, by, parts)
			}
		}
	}
}

func TestP15Join(t *testing.T) {
	cases := []struct {
		l        []string
		by, want string
	}{
		{nil, ",", ""},
		{[]string{}, ",", ""},
		{[]string{""}, ",", ""},
		{[]string{"a"}, ",", "a"},
		{[]string{"a", "b"}, "-", "a-b"},
		{[]string{"a", "b", "c"}, "", "abc"},
		{[]string{"a", "b", "c"}, ", ", "a, b, c"},
		{[]string{"", ""}, ",", ","},
		{[]string{"", "a", ""}, ",", ",a,"},
		{[]string{"a", "", "b"}, ",", "a,,b"},
		{[]string{"a,b", "c"}, ",", "a,b,c"},
		{[]string{"\xff", "\xc3"}, "\xfe", "\xff\xfe\xc3"},
		{[]string{"\xc3", "\xa9"}, "", "\u00e9"},
		{[]string{"a", "b"}, "\x00", "a\x00b"},
	}
	for _, c := range cases {
		if got := impl.Join(c.l, c.by); got != c.want {
			t.Errorf("Join(%q, %q) = %q, want %q", c.l, c.by, got, c.want)
		}
	}
}

func TestP15JoinUndoesSplitAny(t *testing.T) {
	for _, s := range texts([]string{"a", ",", "\n", "\xff", "\u00e9"}, 5) {
		for _, by := range []string{",", "\n", "\xff", "\xa9"} {
			if got := impl.Join(impl.SplitAny(s, by), by); got != s {
				t.Errorf("%q split and joined by %q is %q", s, by, got)
			}
		}
	}
}

func TestP15SplitLines(t *testing.T) {
	cases := []struct {
		s    string
		want []string
	}{
		{"", nil},
		{"\n", []string{""}},
		{"\n\n", []string{"", ""}},
		{"a", []string{"a"}},
		{"a\n", []string{"a"}},
		{"a\nb", []string{"a", "b"}},
		{"a\nb\n", []string{"a", "b"}},
		{"a\n\n", []string{"a", ""}},
		{"\na", []string{"", "a"}},
		{"a\n\nb", []string{"a", "", "b"}},
		{"a\n ", []string{"a", " "}},
		{"a\r\nb", []string{"a\r", "b"}},
		{"a\rb", []string{"a\rb"}},
		{"a\u2028b\u0085c", []string{"a\u2028b\u0085c"}},
		{"\xff\n\xfe", []string{"\xff", "\xfe"}},
		{"\xc3\n\xa9\n", []string{"\xc3", "\xa9"}},
		{"\u010a", []string{"\u010a"}},
		{"a\x00\n", []string{"a\x00"}},
	}
	for _, c := range cases {
		same(t, callOf("SplitLines", c.s), impl.SplitLines(c.s), c.want)
	}
}

func TestP15SplitLinesRestoresTheText(t *testing.T) {
	for _, s := range texts([]string{"a", "\n", "\r", "\xff", "\u00e9"}, 5) {
		text := ""
		for _, line := range impl.SplitLines(s) {
			if strings.Contains(line, "\n") {
				t.Errorf("SplitLines(%q) has a newline in a line", s)
			}
			text += line + "\n"
		}
		want := s
		if s != "" && !strings.HasSuffix(s, "\n") {
			want += "\n"
		}
		if text != want {
			t.Errorf("the lines of %q are those of %q", s, text)
		}
	}
}

func TestP15FormatInts(t *testing.T) {
	cases := []struct {
		l    []int
		want string
	}{
		{nil, "-"},
		{[]int{}, "-"},
		{[]int{0}, "0"},
		{[]int{-1}, "-1"},
		{[]int{1, -2, 3}, "1,-2,3"},
		{[]int{5, 5}, "5,5"},
		{[]int{100000, -100000}, "100000,-100000"},
		{[]int{100001}, ""},
		{[]int{-100001}, ""},
		{[]int{100001, 1}, ""},
		{[]int{1, -100001}, ""},
		{[]int{1, 100001, 2}, ""},
		{[]int{math.MinInt, math.MaxInt}, ""},
	}
	for _, c := range cases {
		if got := impl.FormatInts(c.l); got != c.want {
			t.Errorf("FormatInts(%v) = %q, want %q", c.l, got, c.want)
		}
	}
}

func TestP15ParseIntsTable(t *testing.T) {
	good := map[string][]int{"-": nil, "0": {0}, "-1": {-1}, "1,-2,3": {1, -2, 3}, "5,5": {5, 5}, "100000,-100000": {100000, -100000}}
	for s, want := range good {
		l, ok := impl.ParseInts(s)
		if !ok {
			t.Errorf("ParseInts(%q) fails", s)
		}
		same(t, callOf("ParseInts", s), l, want)
	}
	bad := []string{
		"", ",", ",,", "1,", ",1", "1,,2", "--", "-,", ",-", "-,1", "1,-", "-,-", "1,-0", "01,2", "+1", "1,+2", "1, 2", " 1", "1 ", "1,2\n", "- ", "1;2", "1 2",
		"100001", "1,100001", "-100001,1", "1,99999999999999999999", "1\xff", "1,\xff", "\xff", "1\xff,2", "1,\u0661", "1\uff0c2", "[1]",
	}
	for _, s := range bad {
		if l, ok := impl.ParseInts(s); l != nil || ok {
			t.Errorf("ParseInts(%q) = %v, %v, want nil, false", s, l, ok)
		}
	}
}

func TestP15ParseIntsOnShortTexts(t *testing.T) {
	for _, s := range texts([]string{"-", "+", ",", "0", "1", "12", " ", "\xff"}, 5) {
		checkParseInts(t, s)
	}
}

func TestP15FailureIsTheZeroValue(t *testing.T) {
	if l, ok := impl.ParseInts("1,2,3,x"); l != nil || ok {
		t.Errorf("ParseInts with a bad last element = %v, %v", l, ok)
	}
	if n, ok := impl.ParseInt("12x"); n != 0 || ok {
		t.Errorf("ParseInt with a bad last character = %d, %v", n, ok)
	}
}

func TestP15ArgumentsStayUnchanged(t *testing.T) {
	words, wordsKept := spare([]string{"a", "b"}, "spare")
	impl.Join(words, ",")
	if !wordsKept() {
		t.Error("Join changes its argument")
	}
	for _, l := range [][]int{{}, {1, 2}, {1, 100001, 2}} {
		numbers, numbersKept := spare(l, 77)
		impl.FormatInts(numbers)
		if !numbersKept() {
			t.Errorf("FormatInts changes its argument %v", l)
		}
	}
}

func TestP15ResultsAreNew(t *testing.T) {
	for range 2 {
		l, _ := impl.ParseInts("1,2")
		same(t, "ParseInts(\"1,2\") after its last result was changed", l, []int{1, 2})
		l[0] = 9
		parts := impl.SplitAny("a,b", ",")
		same(t, "SplitAny(\"a,b\", \",\") after its last result was changed", parts, []string{"a", "b"})
		parts[0] = "changed"
		lines := impl.SplitLines("a\nb\n")
		same(t, "SplitLines(\"a\\nb\\n\") after its last result was changed", lines, []string{"a", "b"})
		lines[0] = "changed"
	}
}
