package tests

import (
	"math"
	"reflect"
	"regexp"
	"slices"
	"strings"
	"testing"

	"loop.example/g00806/impl"
)

// The pattern of a mode's duration, independent of the program.
var durationPattern = regexp.MustCompile(`\A([1-9]|1[0-2])\z`)

func ints(numbers ...int) []int {
	return numbers
}

func mode(duration int, usage, consumption []int) impl.Mode {
	return impl.Mode{Duration: duration, Usage: usage, Consumption: consumption}
}

func activity(modes ...impl.Mode) impl.Activity {
	return impl.Activity{Name: "a", Modes: modes}
}

// goodModes are valid for two resources and one stock.
func goodModes() []impl.Mode {
	return []impl.Mode{
		mode(1, ints(0, 0), ints(0)),
		mode(12, ints(20, 20), ints(20)),
		mode(2, ints(6, 0), ints(20)),
		mode(3, ints(5, 20), ints(1)),
		mode(12, ints(1, 3), ints(0)),
	}
}

// oddModes have in part fewer resources and stocks than others, and numbers that no valid mode has.
func oddModes() []impl.Mode {
	return []impl.Mode{
		mode(4, ints(3, 1), ints(2, 5)),
		mode(3, ints(4, 7), ints(6, 1)),
		mode(12, ints(1), nil),
		mode(2, nil, ints(0)),
		mode(-5, ints(-8, 2, 9), ints(-3, 4, -7)),
		mode(math.MinInt, ints(math.MaxInt, math.MinInt), ints(math.MinInt, math.MaxInt)),
		mode(math.MaxInt, ints(2, 0, math.MinInt), ints(math.MaxInt)),
	}
}

// activitiesOf returns all activities with up to most of the given modes.
func activitiesOf(modes []impl.Mode, most int) []impl.Activity {
	all := []impl.Activity{activity()}
	from := 0
	for range most {
		to := len(all)
		for _, a := range all[from:to] {
			for _, m := range modes {
				all = append(all, activity(append(slices.Clone(a.Modes), m)...))
			}
		}
		from = to
	}
	return all
}

// numberAt goes through the list, so that it needs no regard to the limits of an index.
func numberAt(l []int, at int) (int, bool) {
	for i, n := range l {
		if i == at {
			return n, true
		}
	}
	return 0, false
}

// inOrder returns the values of the chosen modes in ascending order; it returns none if one of these modes has no value.
func inOrder(a impl.Activity, chosen []int, value func(m impl.Mode) (int, bool)) []int {
	var values []int
	for i, m := range a.Modes {
		if !isIn(chosen, i) {
			continue
		}
		n, ok := value(m)
		if !ok {
			return nil
		}
		values = append(values, n)
	}
	slices.Sort(values)
	return values
}

func firstOf(l []int) int {
	if len(l) == 0 {
		return 0
	}
	return l[0]
}

func lastOf(l []int) int {
	if len(l) == 0 {
		return 0
	}
	return l[len(l)-1]
}

func duration(m impl.Mode) (int, bool) {
	return m.Duration, true
}

// minimum is one of the functions that look for the smallest amount of a resource or a stock.
type minimum struct {
	name string
	call func(a impl.Activity, modes []int, at int) int
	want func(m impl.Mode, at int) (int, bool)
}

func minima() []minimum {
	return []minimum{
		{"MinUsage", impl.MinUsage, func(m impl.Mode, at int) (int, bool) {
			return numberAt(m.Usage, at)
		}},
		{"MinConsumption", impl.MinConsumption, func(m impl.Mode, at int) (int, bool) {
			return numberAt(m.Consumption, at)
		}},
		{"MinWork", impl.MinWork, func(m impl.Mode, at int) (int, bool) {
			n, ok := numberAt(m.Usage, at)
			return m.Duration * n, ok
		}},
	}
}

func TestLimitsOfActivities(t *testing.T) {
	checkInt(t, "MaxDur", impl.MaxDur, 12)
	checkInt(t, "MaxModes", impl.MaxModes, 3)
}

func isPartOf(l, other []int) bool {
	for _, n := range l {
		if !isIn(other, n) {
			return false
		}
	}
	return true
}

func TestP2MoreModesNeverRaiseAMinimum(t *testing.T) {
	lists := listsOf(ints(0, 1, 2), 3)
	for _, a := range activitiesOf(goodModes(), 3) {
		if len(a.Modes) < 3 {
			continue
		}
		for _, few := range lists[1:] {
			for _, more := range lists {
				if !isPartOf(few, more) {
					continue
				}
				if impl.MinDuration(a, more) > impl.MinDuration(a, few) {
					t.Errorf("MinDuration of %+v is greater for %v than for %v", a, more, few)
				}
				if impl.MaxDuration(a, more) < impl.MaxDuration(a, few) {
					t.Errorf("MaxDuration of %+v is less for %v than for %v", a, more, few)
				}
				for _, f := range minima() {
					if f.call(a, more, 0) > f.call(a, few, 0) {
						t.Errorf("%s of %+v is greater for %v than for %v", f.name, a, more, few)
					}
				}
			}
		}
	}
}

func TestP2AMinimumIsReachedAndNeverExceeded(t *testing.T) {
	for _, a := range activitiesOf(goodModes(), 3) {
		for _, chosen := range listsOf(ints(0, 1, 2), 3) {
			var durations, usages, consumptions, works []int
			for i, m := range a.Modes {
				if isIn(chosen, i) {
					durations = append(durations, m.Duration)
					usages = append(usages, m.Usage[1])
					consumptions = append(consumptions, m.Consumption[0])
					works = append(works, m.Duration*m.Usage[1])
				}
			}
			checkLowest(t, callOf("MinDuration", a, chosen), impl.MinDuration(a, chosen), durations)
			checkLowest(t, callOf("MinUsage", a, chosen, 1), impl.MinUsage(a, chosen, 1), usages)
			checkLowest(t, callOf("MinConsumption", a, chosen, 0), impl.MinConsumption(a, chosen, 0), consumptions)
			checkLowest(t, callOf("MinWork", a, chosen, 1), impl.MinWork(a, chosen, 1), works)
		}
	}
}

// checkLowest expects one of the values, and none that is less; it expects 0 if there are no values.
func checkLowest(t *testing.T, call string, got int, values []int) {
	t.Helper()
	if len(values) == 0 {
		values = ints(0)
	}
	if !isIn(values, got) {
		t.Errorf("%s = %d, which is none of %v", call, got, values)
	}
	for _, n := range values {
		if n < got {
			t.Errorf("%s = %d, but there is %d", call, got, n)
		}
	}
}

func TestP15ModeOk(t *testing.T) {
	cases := []struct {
		m            impl.Mode
		ress, stocks int
		want         bool
	}{
		{mode(1, nil, nil), 0, 0, true},
		{mode(12, nil, nil), 0, 0, true},
		{mode(0, nil, nil), 0, 0, false},
		{mode(13, nil, nil), 0, 0, false},
		{mode(-1, nil, nil), 0, 0, false},
		{mode(math.MinInt, nil, nil), 0, 0, false},
		{mode(math.MaxInt, nil, nil), 0, 0, false},
		{mode(5, ints(), ints()), 0, 0, true},
		{mode(5, ints(), nil), 0, 0, true},
		{mode(5, nil, ints()), 0, 0, true},
		{mode(5, nil, nil), 1, 0, false},
		{mode(5, nil, nil), 0, 1, false},
		{mode(5, nil, nil), -1, 0, false},
		{mode(5, nil, nil), 0, -1, false},
		{mode(5, nil, nil), math.MinInt, math.MinInt, false},
		{mode(5, nil, nil), math.MaxInt, math.MaxInt, false},
		{mode(5, ints(3), ints(4)), 1, 1, true},
		{mode(5, ints(3), ints(4)), -1, -1, false},
		{mode(5, ints(3), ints(4)), -1, 1, false},
		{mode(5, ints(3), ints(4)), 1, -1, false},
		{mode(5, ints(3), ints(4)), 0, 1, false},
		{mode(5, ints(3), ints(4)), 1, 0, false},
		{mode(5, ints(3), ints(4)), 2, 1, false},
		{mode(5, ints(3), ints(4)), 1, 2, false},
		{mode(5, ints(3, 4), ints(5)), 2, 1, true},
		{mode(5, ints(3, 4), ints(5)), 1, 2, false},
		{mode(5, ints(3, 4), ints(5)), 1, 1, false},
		{mode(5, ints(3, 4), ints(5)), 3, 1, false},
		{mode(5, ints(3, 4), ints(5, 6)), 2, 1, false},
		{mode(5, ints(0, 20), ints(20, 0)), 2, 2, true},
		{mode(5, ints(1, 2, 3, 4, 5), ints(1, 2, 3, 4)), 5, 4, true},
	}
	for _, c := range cases {
		checkBool(t, callOf("ModeOk", c.m, c.ress, c.stocks), impl.ModeOk(c.m, c.ress, c.stocks), c.want)
	}
	for d := -2; d <= 15; d++ {
		m := mode(d, ints(1, 2), ints(3))
		checkBool(t, callOf("ModeOk", m, 2, 1), impl.ModeOk(m, 2, 1), d >= 1 && d <= 12)
	}
}

func TestP15ModeOkAtEveryAmount(t *testing.T) {
	for _, n := range ints(math.MinInt, -21, -1, 0, 1, 10, 19, 20, 21, 100, math.MaxInt) {
		want := n >= 0 && n <= 20
		for at := range 3 {
			l := ints(4, 5, 6)
			l[at] = n
			checkBool(t, callOf("ModeOk", l, "as Usage"), impl.ModeOk(mode(5, l, ints(7)), 3, 1), want)
			checkBool(t, callOf("ModeOk", l, "as Consumption"), impl.ModeOk(mode(5, ints(7), l), 1, 3), want)
		}
	}
}

func TestP15ActivityOk(t *testing.T) {
	good, bad := mode(5, ints(3), ints(4)), mode(13, ints(3), ints(4))
	short, long := mode(5, nil, ints(4)), mode(5, ints(3), ints(4, 4))
	cases := []struct {
		name   string
		family int
		modes  []impl.Mode
		want   bool
	}{
		{"a", 0, []impl.Mode{good}, true},
		{"a1b2c3d4", 3, []impl.Mode{good}, true},
		{"a1b2c3d45", 0, []impl.Mode{good}, false},
		{"", 0, []impl.Mode{good}, false},
		{"1a", 0, []impl.Mode{good}, false},
		{"A", 0, []impl.Mode{good}, false},
		{"a b", 0, []impl.Mode{good}, false},
		{"\u00e9", 0, []impl.Mode{good}, false},
		{"a", -1, []impl.Mode{good}, false},
		{"a", 1, []impl.Mode{good}, true},
		{"a", 2, []impl.Mode{good}, true},
		{"a", 4, []impl.Mode{good}, false},
		{"a", math.MinInt, []impl.Mode{good}, false},
		{"a", math.MaxInt, []impl.Mode{good}, false},
		{"a", 0, nil, false},
		{"a", 0, []impl.Mode{}, false},
		{"a", 0, []impl.Mode{good, good}, true},
		{"a", 0, []impl.Mode{good, good, good}, true},
		{"a", 0, []impl.Mode{good, good, good, good}, false},
		{"a", 0, make([]impl.Mode, 100000), false},
		{"a", 0, []impl.Mode{bad}, false},
		{"a", 0, []impl.Mode{bad, good, good}, false},
		{"a", 0, []impl.Mode{good, bad, good}, false},
		{"a", 0, []impl.Mode{good, good, bad}, false},
		{"a", 0, []impl.Mode{good, short}, false},
		{"a", 0, []impl.Mode{good, long}, false},
	}
	for _, c := range cases {
		a := impl.Activity{Name: c.name, Family: c.family, Modes: c.modes}
		checkBool(t, callOf("ActivityOk", c.name, c.family, len(c.modes)), impl.ActivityOk(a, 1, 1), c.want)
	}
}

func TestP15ActivityOkCountsResourcesAndStocks(t *testing.T) {
	for _, ress := range ints(math.MinInt, -2, -1, 0, 1, 2, 3, math.MaxInt) {
		for _, stocks := range ints(math.MinInt, -1, 0, 1, 2, 3, math.MaxInt) {
			a := activity(mode(5, ints(3, 4), ints(6)), mode(1, ints(0, 20), ints(0)))
			checkBool(t, callOf("ActivityOk", a, ress, stocks), impl.ActivityOk(a, ress, stocks), ress == 2 && stocks == 1)
			none := activity(mode(5, nil, ints()), mode(1, ints(), nil))
			checkBool(t, callOf("ActivityOk", none, ress, stocks), impl.ActivityOk(none, ress, stocks), ress == 0 && stocks == 0)
		}
	}
}

func TestP15FormatMode(t *testing.T) {
	cases := []struct {
		m    impl.Mode
		want string
	}{
		{mode(1, nil, nil), "1/-/-"},
		{mode(12, ints(), ints()), "12/-/-"},
		{mode(2, ints(2), nil), "2/2/-"},
		{mode(2, nil, ints(2)), "2/-/2"},
		{mode(4, ints(1, 0, 20), ints(5, 7)), "4/1,0,20/5,7"},
		{mode(4, ints(21), ints(-1)), "4/21/-1"},
		{mode(4, ints(-100000, 100000), ints(100000, -100000)), "4/-100000,100000/100000,-100000"},
		{mode(4, ints(100001), nil), ""},
		{mode(4, ints(1, -100001), nil), ""},
		{mode(4, ints(1), ints(100001)), ""},
		{mode(4, nil, ints(1, math.MinInt)), ""},
		{mode(4, ints(math.MaxInt), ints(math.MaxInt)), ""},
		{mode(0, ints(1), ints(1)), ""},
		{mode(13, ints(1), ints(1)), ""},
		{mode(-1, nil, nil), ""},
		{mode(100001, nil, nil), ""},
		{mode(math.MinInt, nil, nil), ""},
		{mode(math.MaxInt, nil, nil), ""},
		{impl.Mode{}, ""},
	}
	for _, c := range cases {
		if got := impl.FormatMode(c.m); got != c.want {
			t.Errorf("%s = %q, want %q", callOf("FormatMode", c.m), got, c.want)
		}
	}
}

// readMode returns the mode that a text stands for according to chapter 5.
func readMode(text string) (impl.Mode, bool) {
	duration, rest, _ := strings.Cut(text, "/")
	usage, consumption, two := strings.Cut(rest, "/")
	if !two || !durationPattern.MatchString(duration) {
		return impl.Mode{}, false
	}
	d, _ := numberOf(duration)
	u, usageOk := listOf(usage)
	c, consumptionOk := listOf(consumption)
	if !usageOk || !consumptionOk {
		return impl.Mode{}, false
	}
	return mode(d, u, c), true
}

func checkMode(t *testing.T, text string, want impl.Mode, ok bool) {
	t.Helper()
	got, gotOk := impl.ParseMode(text)
	equal := got.Duration == want.Duration && slices.Equal(got.Usage, want.Usage) && slices.Equal(got.Consumption, want.Consumption)
	if gotOk != ok || !equal {
		t.Errorf("ParseMode(%q) = %+v, %v, want %+v, %v", text, got, gotOk, want, ok)
	}
}

func TestP15ParseModeOfShortTexts(t *testing.T) {
	for _, text := range texts([]string{"/", "1", "0", "-", ",", "1/", "/-", "+", " "}, 5) {
		want, ok := readMode(text)
		checkMode(t, text, want, ok)
	}
	for _, text := range texts([]string{"12", "13", "/", "2", "-", ",7"}, 6) {
		want, ok := readMode(text)
		checkMode(t, text, want, ok)
	}
}

func TestP15ParseMode(t *testing.T) {
	checkMode(t, "1/-/-", mode(1, nil, nil), true)
	checkMode(t, "12/-/-", mode(12, nil, nil), true)
	checkMode(t, "2/2/-", mode(2, ints(2), nil), true)
	checkMode(t, "2/-/2", mode(2, nil, ints(2)), true)
	checkMode(t, "4/1,0,20/5,7", mode(4, ints(1, 0, 20), ints(5, 7)), true)
	checkMode(t, "4/21/-1", mode(4, ints(21), ints(-1)), true)
	checkMode(t, "4/-100000,100000/100000", mode(4, ints(-100000, 100000), ints(100000)), true)
	bad := []string{
		"", "/", "//", "///", "2", "2/", "2//", "/2/", "//2", "2/2", "2/-", "2//-", "2/-/", "/-/-", "-/-/-", "2/2/2/2", "2/-/-/-", "2/-/-/", "/2/-/-",
		"0/1/-", "13/1/-", "-1/1/-", "-2/1/-", "100/1/-", "14/1/-", "20/1/-", "99/1/-", "100000/1/-", "100001/1/-", "18446744073709551618/1/-",
		"02/1/-", "+2/1/-", "-0/1/-", "00/1/-", "1,2/1/-", "2,/1/-", "2 /1/-", " 2/1/-", "a/1/-", "0x2/1/-", "2./1/-",
		"2/01/-", "2/+1/-", "2/-0/-", "2/1,/-", "2/,1/-", "2/1,,2/-", "2/1,-/-", "2/-,1/-", "2/--/-", "2/1 /-", "2/ 1/-", "2/1, 2/-", "2/100001/-", "2/-100001/-", "2/1,18446744073709551617/-",
		"2/-/01", "2/-/+1", "2/-/-0", "2/-/1,", "2/-/,1", "2/-/1,,2", "2/-/1,-", "2/-/-,1", "2/-/--", "2/-/1 ", "2/-/ 1", "2/-/100001", "2/-/-100001", "2/-/18446744073709551617",
		"2/-/-\n", "\n2/-/-", "2/-/- ", " 2/-/-", "2 - -", "2:-:-", "2,-,-", "2\\-\\-", "\u0662/-/-", "2/\u0661/-", "2/-/\u0661", "2\u2044-\u2044-", "2/-/-\x00", "2/-/-\xff", "\ufeff2/-/-",
	}
	for _, text := range bad {
		checkMode(t, text, impl.Mode{}, false)
	}
	for _, long := range []string{"/", "1/", "-/", "0", ","} {
		checkMode(t, strings.Repeat(long, 100000), impl.Mode{}, false)
	}
}

func TestP15ModesAreRecovered(t *testing.T) {
	lists := listsOf(ints(-impl.MaxNum, -1, 0, 7, 20, impl.MaxNum), 2)
	for d := 1; d <= impl.MaxDur; d++ {
		for _, usage := range lists {
			for _, consumption := range lists {
				m := mode(d, usage, consumption)
				checkMode(t, impl.FormatMode(m), m, true)
			}
		}
	}
	for _, m := range slices.Concat(goodModes(), oddModes()) {
		text := impl.FormatMode(m)
		ok := m.Duration >= 1 && m.Duration <= 12
		if !ok {
			m = impl.Mode{}
		}
		checkMode(t, text, m, ok)
	}
	var many []int
	for n := range 5000 {
		many = append(many, n)
	}
	checkMode(t, impl.FormatMode(mode(3, many, many)), mode(3, many, many), true)
}

// checkChoice compares all functions that choose among modes with the values in order.
func checkChoice(t *testing.T, a impl.Activity, chosen []int) {
	t.Helper()
	durations := inOrder(a, chosen, duration)
	if got, want := impl.MinDuration(a, chosen), firstOf(durations); got != want {
		t.Errorf("%s = %d, want %d", callOf("MinDuration", a, chosen), got, want)
	}
	if got, want := impl.MaxDuration(a, chosen), lastOf(durations); got != want {
		t.Errorf("%s = %d, want %d", callOf("MaxDuration", a, chosen), got, want)
	}
	for _, f := range minima() {
		for at := -1; at <= 3; at++ {
			want := firstOf(inOrder(a, chosen, func(m impl.Mode) (int, bool) { return f.want(m, at) }))
			if got := f.call(a, chosen, at); got != want {
				t.Errorf("%s = %d, want %d", callOf(f.name, a, chosen, at), got, want)
			}
		}
	}
}

func TestP15ChoicesAmongModes(t *testing.T) {
	lists := listsOf(ints(-1, 0, 1, 2, 3), 3)
	lists = append(lists, ints(2, 1, 0, 2, 1, 0), ints(0, 1, 2, 3, 4), ints(math.MinInt, 1), ints(1, math.MaxInt), ints(math.MinInt, math.MaxInt))
	for _, a := range activitiesOf(oddModes(), 3) {
		for _, chosen := range lists {
			checkChoice(t, a, chosen)
		}
	}
	for _, a := range activitiesOf(goodModes(), 2) {
		for _, chosen := range lists {
			checkChoice(t, a, chosen)
		}
	}
}

func TestP15DurationsTable(t *testing.T) {
	a := activity(mode(5, nil, nil), mode(2, nil, nil), mode(9, nil, nil))
	negative := activity(mode(-5, nil, nil), mode(-2, nil, nil), mode(-9, nil, nil))
	wide := activity(mode(math.MaxInt, nil, nil), mode(math.MinInt, nil, nil))
	cases := []struct {
		a                 impl.Activity
		modes             []int
		shortest, longest int
	}{
		{a, nil, 0, 0},
		{a, ints(), 0, 0},
		{a, ints(0), 5, 5},
		{a, ints(1), 2, 2},
		{a, ints(2), 9, 9},
		{a, ints(0, 1), 2, 5},
		{a, ints(0, 2), 5, 9},
		{a, ints(2, 0), 5, 9},
		{a, ints(0, 1, 2), 2, 9},
		{a, ints(2, 2, 0, 2), 5, 9},
		{a, ints(-1, 0), 5, 5},
		{a, ints(0, 3), 5, 5},
		{a, ints(-1), 0, 0},
		{a, ints(3), 0, 0},
		{a, ints(3, -1, 4), 0, 0},
		{a, ints(math.MinInt, math.MaxInt), 0, 0},
		{a, ints(math.MinInt, 2, math.MaxInt), 9, 9},
		{impl.Activity{}, ints(0), 0, 0},
		{impl.Activity{}, nil, 0, 0},
		{negative, ints(0, 1, 2), -9, -2},
		{negative, ints(0), -5, -5},
		{wide, ints(0, 1), math.MinInt, math.MaxInt},
		{wide, ints(0), math.MaxInt, math.MaxInt},
		{wide, ints(1), math.MinInt, math.MinInt},
	}
	for _, c := range cases {
		checkInt(t, callOf("MinDuration", c.a, c.modes), impl.MinDuration(c.a, c.modes), c.shortest)
		checkInt(t, callOf("MaxDuration", c.a, c.modes), impl.MaxDuration(c.a, c.modes), c.longest)
	}
}

func TestP15MinimaTable(t *testing.T) {
	a := activity(mode(2, ints(6, 3), ints(9)), mode(5, ints(2, 4), ints(7)), mode(3, ints(4), nil))
	all := ints(0, 1, 2)
	cases := []struct {
		modes                    []int
		at                       int
		usage, consumption, work int
	}{
		{all, 0, 2, 0, 10},
		{all, 1, 0, 0, 0},
		{all, 2, 0, 0, 0},
		{all, -1, 0, 0, 0},
		{all, math.MinInt, 0, 0, 0},
		{all, math.MaxInt, 0, 0, 0},
		{ints(0, 1), 0, 2, 7, 10},
		{ints(1, 0), 0, 2, 7, 10},
		{ints(0, 1), 1, 3, 0, 6},
		{ints(0, 2), 0, 4, 0, 12},
		{ints(0, 2), 1, 0, 0, 0},
		{ints(2, 0), 1, 0, 0, 0},
		{ints(0, 0), 0, 6, 9, 12},
		{ints(0), 1, 3, 0, 6},
		{ints(2), 0, 4, 0, 12},
		{ints(2), 1, 0, 0, 0},
		{ints(0, 3), 0, 6, 9, 12},
		{ints(-1, 0), 0, 6, 9, 12},
		{ints(-1, 3), 0, 0, 0, 0},
		{nil, 0, 0, 0, 0},
		{ints(), 0, 0, 0, 0},
	}
	for _, c := range cases {
		checkInt(t, callOf("MinUsage", c.modes, c.at), impl.MinUsage(a, c.modes, c.at), c.usage)
		checkInt(t, callOf("MinConsumption", c.modes, c.at), impl.MinConsumption(a, c.modes, c.at), c.consumption)
		checkInt(t, callOf("MinWork", c.modes, c.at), impl.MinWork(a, c.modes, c.at), c.work)
	}
	for _, f := range minima() {
		checkInt(t, f.name+" of no modes", f.call(impl.Activity{}, ints(0), 0), 0)
	}
}

// The smallest amount is less than 0 here, so that it differs from the 0 for a mode without the resource or the stock.
func TestP15AMissingAmountGivesZero(t *testing.T) {
	amount, missing := mode(1, ints(-4), ints(-4)), mode(1, nil, nil)
	for _, modes := range [][]impl.Mode{{missing, amount, amount}, {amount, missing, amount}, {amount, amount, missing}} {
		a := activity(modes...)
		for _, f := range minima() {
			checkInt(t, callOf(f.name, a, "all"), f.call(a, ints(0, 1, 2), 0), 0)
			checkInt(t, callOf(f.name, a, "all, from the last"), f.call(a, ints(2, 1, 0), 0), 0)
			for i, m := range modes {
				if len(m.Usage) == 0 {
					rest := impl.SetRemove(ints(0, 1, 2), i)
					checkInt(t, callOf(f.name, a, rest), f.call(a, rest, 0), -4)
				}
			}
		}
	}
}

// A product that int cannot represent wraps around, as the document's 'int' is a signed 64-bit integer.
func TestP15ProductsOfGreatNumbers(t *testing.T) {
	cases := []struct{ duration, usage, want int }{
		{12, 20, 240},
		{0, math.MaxInt, 0},
		{math.MinInt, 0, 0},
		{1, math.MinInt, math.MinInt},
		{math.MaxInt, 1, math.MaxInt},
		{-1, math.MaxInt, -math.MaxInt},
		{math.MaxInt, 2, -2},
		{2, math.MaxInt, -2},
		{math.MinInt, 2, 0},
		{-1, math.MinInt, math.MinInt},
		{math.MinInt, math.MinInt, 0},
		{math.MaxInt, math.MaxInt, 1},
		{math.MinInt, math.MaxInt, math.MinInt},
		{1 << 32, 1 << 31, math.MinInt},
		{1 << 32, 1<<32 + 1, 1 << 32},
	}
	for _, c := range cases {
		a := activity(mode(c.duration, ints(c.usage), nil))
		checkInt(t, callOf("MinWork", c.duration, c.usage), impl.MinWork(a, ints(0), 0), c.want)
	}
	a := activity(mode(3, ints(1), nil), mode(math.MaxInt, ints(2), nil), mode(math.MinInt, ints(1), nil))
	checkInt(t, "MinWork of 3 and -2", impl.MinWork(a, ints(0, 1), 0), -2)
	checkInt(t, "MinWork of 3, -2 and MinInt", impl.MinWork(a, ints(0, 1, 2), 0), math.MinInt)
}

func TestP15ModeIndexes(t *testing.T) {
	for n := range 203 {
		var want []int
		for i := range n {
			if n <= 200 {
				want = append(want, i)
			}
		}
		same(t, callOf("ModeIndexes of modes", n), impl.ModeIndexes(activity(make([]impl.Mode, n)...)), want)
	}
	same(t, "ModeIndexes of 100000 modes", impl.ModeIndexes(activity(make([]impl.Mode, 100000)...)), nil)
	same(t, "ModeIndexes of no activity", impl.ModeIndexes(impl.Activity{}), nil)
	same(t, "ModeIndexes of modes that are not valid", impl.ModeIndexes(activity(oddModes()[:3]...)), ints(0, 1, 2))
}

func TestP15ActivityEqual(t *testing.T) {
	m := mode(5, ints(3, 4), ints(6))
	all := []impl.Activity{
		{},
		{Name: "a"},
		{Family: 1},
		{Name: "a", Family: 1},
		{Name: "b", Family: 1},
		{Name: "A", Family: 1},
		{Name: "a", Family: math.MinInt},
		{Name: "a", Family: math.MaxInt},
		activity(m),
		activity(m, m),
		activity(m, m, m),
		activity(m, m, m, m),
		activity(mode(4, ints(3, 4), ints(6))),
		activity(mode(5, ints(3), ints(6))),
		activity(mode(5, ints(4, 3), ints(6))),
		activity(mode(5, ints(3, 5), ints(6))),
		activity(mode(5, ints(2, 4), ints(6))),
		activity(mode(5, ints(3, 4, 0), ints(6))),
		activity(mode(5, ints(3, 4), ints(7))),
		activity(mode(5, ints(3, 4), ints(6, 0))),
		activity(mode(5, ints(3, 4), nil)),
		activity(mode(5, nil, ints(6))),
		activity(mode(5, ints(6), ints(3, 4))),
		activity(mode(5, nil, ints(3, 4, 6))),
		activity(mode(math.MinInt, ints(math.MaxInt), nil)),
		activity(mode(math.MaxInt, ints(math.MinInt), nil)),
		activity(m, mode(4, ints(3, 4), ints(6))),
		activity(mode(4, ints(3, 4), ints(6)), m),
		{Name: "b", Modes: []impl.Mode{m}},
		{Name: "a", Family: 1, Modes: []impl.Mode{m}},
		activity(impl.Mode{}),
	}
	for i, a := range all {
		for j, b := range all {
			checkBool(t, callOf("ActivityEqual", a, b), impl.ActivityEqual(a, copyOf(b)), i == j)
		}
	}
}

// copyOf has empty lists where a has none.
func copyOf(a impl.Activity) impl.Activity {
	modes := []impl.Mode{}
	for _, m := range a.Modes {
		modes = append(modes, mode(m.Duration, append(ints(), m.Usage...), append(ints(), m.Consumption...)))
	}
	return impl.Activity{Name: a.Name, Family: a.Family, Modes: modes}
}

func TestP15NilAndEmptyListsOfActivitiesAreEqual(t *testing.T) {
	checkBool(t, "ActivityEqual of nil and empty modes", impl.ActivityEqual(activity(), impl.Activity{Name: "a", Modes: []impl.Mode{}}), true)
	checkBool(t, "ActivityEqual of empty and nil modes", impl.ActivityEqual(impl.Activity{Name: "a", Modes: []impl.Mode{}}, activity()), true)
	for _, usage := range [][]int{nil, {}} {
		for _, consumption := range [][]int{nil, {}} {
			a := activity(mode(5, usage, consumption))
			checkBool(t, callOf("ActivityEqual", a), impl.ActivityEqual(a, activity(mode(5, nil, nil))), true)
			checkBool(t, callOf("ActivityEqual", a), impl.ActivityEqual(activity(mode(5, nil, nil)), a), true)
			checkBool(t, callOf("ActivityOk", a), impl.ActivityOk(a, 0, 0), true)
			checkInt(t, callOf("MinUsage", a), impl.MinUsage(a, ints(0), 0), 0)
			checkInt(t, callOf("MinConsumption", a), impl.MinConsumption(a, ints(0), 0), 0)
		}
	}
}

// guarded returns a copy of an activity all of whose lists reach beyond their ends, and a function that reports whether all of it is still the same.
func guarded(a impl.Activity) (impl.Activity, func() bool) {
	whole := []impl.Mode{}
	var kept []func() bool
	for _, m := range append(slices.Clone(a.Modes), mode(-7, ints(-7), ints(-7))) {
		usage, usageKept := spare(m.Usage, 77)
		consumption, consumptionKept := spare(m.Consumption, 88)
		whole = append(whole, mode(m.Duration, usage, consumption))
		kept = append(kept, usageKept, consumptionKept)
	}
	before := copyOf(activity(whole...)).Modes
	b := impl.Activity{Name: a.Name, Family: a.Family, Modes: whole[:len(a.Modes)]}
	return b, func() bool {
		for _, isKept := range kept {
			if !isKept() {
				return false
			}
		}
		return reflect.DeepEqual(copyOf(activity(whole...)).Modes, before)
	}
}

// TestP15ActivitiesAreLeftAlone overwrites each result, which would show in an argument that shares its memory.
func TestP15ActivitiesAreLeftAlone(t *testing.T) {
	for _, given := range slices.Concat(activitiesOf(goodModes(), 2), activitiesOf(oddModes(), 2)) {
		a, aKept := guarded(given)
		b, bKept := guarded(given)
		chosen, chosenKept := spare(ints(2, 0, 1, 1, -1), 1)
		impl.ActivityOk(a, 2, 1)
		impl.ActivityEqual(a, b)
		impl.MinDuration(a, chosen)
		impl.MaxDuration(a, chosen)
		for _, f := range minima() {
			f.call(a, chosen, 0)
		}
		for _, m := range a.Modes {
			impl.ModeOk(m, 2, 1)
			back, _ := impl.ParseMode(impl.FormatMode(m))
			overwrite(back.Usage, -9)
			overwrite(back.Consumption, -9)
		}
		overwrite(impl.ModeIndexes(a), -9)
		if !aKept() || !bKept() || !chosenKept() {
			t.Errorf("a function of chapter 5 changes its argument %+v", given)
		}
	}
}

func TestP15ModesAreNew(t *testing.T) {
	for range 2 {
		m, _ := impl.ParseMode("4/1,2/1,2")
		overwrite(m.Usage, -9)
		same(t, "Consumption after Usage was changed", m.Consumption, ints(1, 2))
		overwrite(m.Consumption, -8)
		for _, n := range m.Usage {
			checkInt(t, "Usage after Consumption was changed", n, -9)
		}
		indexes := impl.ModeIndexes(activity(goodModes()[:3]...))
		same(t, "ModeIndexes after its last result was changed", indexes, ints(0, 1, 2))
		overwrite(indexes, -9)
		checkMode(t, "4/1,2/1,2", mode(4, ints(1, 2), ints(1, 2)), true)
	}
}
