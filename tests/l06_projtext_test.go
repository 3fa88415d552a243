package tests

import (
	"fmt"
	"math"
	"math/rand"
	"regexp"
	"slices"
	"strings"
	"testing"

	"loop.example/g00806/impl"
)

// The pattern of a project's text according to chapter 7, without the limits of its numbers and names, independent of the program.
var projectPattern = regexp.MustCompile(`\Adeadline [0-9]+\n` +
	`(resource [0-9:,]+( [0-9]+(,[0-9]+){15})?\n)*` +
	`(stock [0-9]+\n)*` +
	`(activity [a-z0-9]+ [0-9]+( [-0-9,/]+)+\n)*` +
	`((start|end) [a-z0-9]+ [a-z0-9]+ [-0-9]+\n)*\z`)

// readProject returns the project that a text stands for according to chapter 7.
func readProject(text string) (impl.Project, bool) {
	if !projectPattern.MatchString(text) {
		return impl.Project{}, false
	}
	var p impl.Project
	good := true
	number := func(s string) int {
		n, ok := numberOf(s)
		good = good && ok
		return n
	}
	for _, line := range strings.Split(strings.TrimSuffix(text, "\n"), "\n") {
		words := strings.Split(line, " ")
		switch words[0] {
		case "deadline":
			p.Deadline = number(words[1])
		case "resource":
			steps, ok := readSteps(words[1])
			good = good && ok
			r := impl.Resource{Steps: steps}
			if len(words) == 3 {
				l, ok := listOf(words[2])
				if !ok {
					return impl.Project{}, false
				}
				r.Setup = [][]int{l[0:4], l[4:8], l[8:12], l[12:16]}
			}
			p.Resources = append(p.Resources, r)
		case "stock":
			p.Stocks = append(p.Stocks, number(words[1]))
		case "activity":
			a := impl.Activity{Name: words[1], Family: number(words[2])}
			for _, word := range words[3:] {
				m, ok := readMode(word)
				good = good && ok
				a.Modes = append(a.Modes, m)
			}
			p.Activities = append(p.Activities, a)
		default:
			k := link(-1, -1, words[0] == "end", number(words[3]))
			for i, a := range p.Activities {
				if a.Name == words[1] {
					k.From = i
				}
				if a.Name == words[2] {
					k.To = i
				}
			}
			p.Links = append(p.Links, k)
		}
	}
	// The tests of chapter 6 check ProjectOk.
	if !good || !impl.ProjectOk(p) {
		return impl.Project{}, false
	}
	return p, true
}

// textOf writes any project as chapter 7 describes it, also one that is not valid.
func textOf(p impl.Project) string {
	text := fmt.Sprintf("deadline %d\n", p.Deadline)
	for _, r := range p.Resources {
		text += "resource " + stepsText(r.Steps)
		if len(r.Setup) > 0 {
			text += " " + numbersText(slices.Concat(r.Setup...))
		}
		text += "\n"
	}
	for _, n := range p.Stocks {
		text += fmt.Sprintf("stock %d\n", n)
	}
	for _, a := range p.Activities {
		text += fmt.Sprintf("activity %s %d", a.Name, a.Family)
		for _, m := range a.Modes {
			text += fmt.Sprintf(" %d/%s/%s", m.Duration, numbersText(m.Usage), numbersText(m.Consumption))
		}
		text += "\n"
	}
	for _, k := range p.Links {
		text += linkText(p, k) + "\n"
	}
	return text
}

func linkText(p impl.Project, k impl.Link) string {
	word := map[bool]string{false: "start", true: "end"}[k.FromEnd]
	return fmt.Sprintf("%s %s %s %d", word, nameAt(p, k.From), nameAt(p, k.To), k.Lag)
}

func nameAt(p impl.Project, at int) string {
	for i, a := range p.Activities {
		if i == at {
			return a.Name
		}
	}
	return "nobody"
}

func stepsText(l []impl.Step) string {
	var parts []string
	for _, step := range l {
		parts = append(parts, fmt.Sprintf("%d:%d", step.At, step.Capacity))
	}
	return strings.Join(parts, ",")
}

func numbersText(l []int) string {
	if len(l) == 0 {
		return "-"
	}
	return strings.Trim(strings.ReplaceAll(fmt.Sprint(l), " ", ","), "[]")
}

// randomProject is valid, and the same for the same seed.
func randomProject(seed int64) impl.Project {
	r := rand.New(rand.NewSource(seed))
	p := impl.Project{Deadline: 1 + r.Intn(60)}
	for range r.Intn(4) {
		resource := impl.Resource{Steps: goodProfiles()[r.Intn(len(goodProfiles()))]}
		if r.Intn(2) == 0 {
			resource.Setup = setupOf(r.Intn(13), r.Intn(13), r.Intn(13))
		}
		p.Resources = append(p.Resources, resource)
	}
	for range r.Intn(3) {
		p.Stocks = append(p.Stocks, r.Intn(101))
	}
	for i := range 1 + r.Intn(6) {
		a := impl.Activity{Name: fmt.Sprintf("%c%d", 'a'+r.Intn(26), i), Family: r.Intn(4)}
		for range 1 + r.Intn(3) {
			m := mode(1+r.Intn(12), nil, nil)
			for range p.Resources {
				m.Usage = append(m.Usage, r.Intn(21))
			}
			for range p.Stocks {
				m.Consumption = append(m.Consumption, r.Intn(21))
			}
			a.Modes = append(a.Modes, m)
		}
		p.Activities = append(p.Activities, a)
	}
	if n := len(p.Activities); n > 1 {
		for range r.Intn(13) {
			from := r.Intn(n)
			p.Links = append(p.Links, link(from, (from+1+r.Intn(n-1))%n, r.Intn(2) == 0, r.Intn(121)-60))
		}
	}
	return p
}

const fullText = `deadline 60
resource 0:2,6:1
resource 0:1,9:1 1,6,11,3,4,9,1,6,7,12,4,9,10,2,7,12
resource 0:0,1:1,2:2,3:3,4:20,5:5,59:6,60:7 0,7,1,8,2,9,3,10,4,11,5,12,6,0,7,1
stock 0
stock 100
activity a 0 3/1,0,0/0,1
activity b1 1 2/2,0,1/1,0 4/1,0,0/3,2
activity c 2 1/0,0,0/0,0 12/20,0,0/20,20 5/0,1,0/7,8
activity abcdefgh 3 6/0,1,1/2,2
activity z9 3 7/0,0,0/0,0 8/0,0,0/0,4
activity start 1 9/3,0,0/1,1 10/0,20,0/2,3 11/4,5,6/4,4
start a b1 0
end b1 a -60
end a c 60
start start z9 -1
end c abcdefgh 1
start abcdefgh start 12
start a b1 0
end a b1 0
start z9 start -59
end start a 59
start b1 c 7
end c b1 -20
`

const machineText = "deadline 9\nresource 0:1 0,1,1,1,2,0,1,1,1,1,0,1,1,1,1,0\nstock 3\nactivity a 0 3/1/1\nactivity b 1 2/1/1 5/1/0\nstart b a -4\n"

func checkProject(t *testing.T, text string, want impl.Project, ok bool) {
	t.Helper()
	got, gotOk := impl.ParseProject(text)
	if gotOk != ok || !areSame(got, want) {
		t.Errorf("ParseProject(%q) = %+v, %v, want %+v, %v", text, got, gotOk, want, ok)
	}
}

func checkNoProject(t *testing.T, text string) {
	t.Helper()
	checkProject(t, text, impl.Project{}, false)
}

// checkText compares ParseProject with readProject, and FormatProject of its result with the text.
func checkText(t *testing.T, text string) {
	t.Helper()
	want, ok := readProject(text)
	checkProject(t, text, want, ok)
	if p, accepted := impl.ParseProject(text); accepted && impl.FormatProject(p) != text {
		t.Errorf("ParseProject accepts %q, but FormatProject of it is %q", text, impl.FormatProject(p))
	}
}

func TestP1ProjectTexts(t *testing.T) {
	machine := impl.Project{
		Deadline:   9,
		Activities: []impl.Activity{{Name: "a", Modes: []impl.Mode{mode(3, ints(1), ints(1))}}, {Name: "b", Family: 1, Modes: []impl.Mode{mode(2, ints(1), ints(1)), mode(5, ints(1), ints(0))}}},
		Links:      []impl.Link{link(1, 0, false, -4)},
		Resources:  []impl.Resource{{Steps: profile(0, 1), Setup: [][]int{{0, 1, 1, 1}, {2, 0, 1, 1}, {1, 1, 0, 1}, {1, 1, 1, 0}}}},
		Stocks:     ints(3),
	}
	cases := []struct {
		p    impl.Project
		text string
	}{
		{full(), fullText},
		{machine, machineText},
		{chain(1), "deadline 20\nactivity a0 0 1/-/-\n"},
		{chain(2), "deadline 20\nactivity a0 0 1/-/-\nactivity a1 0 1/-/-\n"},
		{plain(1, 0), "deadline 20\nresource 0:2\nactivity a 0 2/0/-\n"},
		{plain(0, 1), "deadline 20\nstock 5\nactivity a 0 2/-/0\n"},
		{plain(3, 2), "deadline 20\nresource 0:2\nresource 0:2\nresource 0:2\nstock 5\nstock 5\nactivity a 0 2/0,0,0/0,0\n"},
	}
	for _, c := range cases {
		if got := impl.FormatProject(c.p); got != c.text {
			t.Errorf("FormatProject(%+v) = %q, want %q", c.p, got, c.text)
		}
		checkProject(t, c.text, c.p, true)
	}
}

// checkRecovered expects that a valid project has its text, and comes back from it.
func checkRecovered(t *testing.T, p impl.Project) {
	t.Helper()
	text := impl.FormatProject(p)
	if text != textOf(p) {
		t.Errorf("FormatProject(%+v) = %q, want %q", p, text, textOf(p))
	}
	checkProject(t, text, p, true)
}

func TestP1ProjectsAreRecovered(t *testing.T) {
	for _, v := range chosen(true) {
		checkRecovered(t, v.p)
	}
	for seed := range int64(3000) {
		checkRecovered(t, randomProject(seed))
	}
}

func TestP1ProjectsThatAreNotValidHaveNoText(t *testing.T) {
	for _, v := range chosen(false) {
		if got := impl.FormatProject(v.p); got != "" {
			t.Errorf("FormatProject of a project with %s = %q", v.name, got)
		}
		// Not always refused: a row of 16 numbers is not valid, but written like 4 rows of 4.
		checkText(t, textOf(v.p))
	}
	checkNoProject(t, "")
}

func TestP1TextsWithOneByteChanged(t *testing.T) {
	for _, text := range []string{fullText, machineText} {
		for at := range len(text) + 1 {
			head, tail := text[:at], text[at:]
			for _, piece := range []string{"", " ", "\n", "-", ",", "/", ":", "0", "1", "a", "A", "+", "\x00", "\xff"} {
				checkText(t, head+piece+tail)
				if tail != "" {
					checkText(t, head+piece+tail[1:])
				}
			}
			checkText(t, head)
			checkText(t, tail)
		}
	}
}

func TestP1TextsWithLinesMoved(t *testing.T) {
	for _, text := range []string{fullText, machineText} {
		lines := strings.SplitAfter(strings.TrimSuffix(text, "\n"), "\n")
		lines[len(lines)-1] += "\n"
		for i, line := range lines {
			rest := slices.Delete(slices.Clone(lines), i, i+1)
			checkText(t, strings.Join(rest, ""))
			for at := range len(lines) {
				checkText(t, strings.Join(slices.Insert(slices.Clone(rest), at, line), ""))
				checkText(t, strings.Join(slices.Insert(slices.Clone(lines), at, line), ""))
				checkText(t, strings.Join(slices.Insert(slices.Clone(lines), at, "\n"), ""))
			}
		}
	}
}

func TestP1TextsWithOneWordChanged(t *testing.T) {
	words := []string{
		"", "-", "-/-/-", "0", "1", "3", "4", "12", "13", "20", "21", "60", "61", "-1", "-60", "-61", "01", "-0", "+1", "100", "101", "100000", "100001", "18446744073709551617",
		"a", "c", "b1", "z9", "start", "end", "stock", "deadline", "resource", "activity", "new", "NEW", "abcdefghi", "\u00e9",
		"1,1", "0:1", "0:21", "1:1", "0:1,61:1", "1/0,0,0/0,0", "1/0/0", "1/0,0/0,0", "0/0,0,0/0,0", "1/21,0,0/0,0", "1/0,0,0/0,21", "1/0,0,0/-",
		"0,0,0,0,0,0,0,0,0,0,0,0,0,0,0,0", "0,0,0,0,0,0,0,0,0,0,0,0,0,0,0", "0,0,0,0,0,0,0,0,0,0,0,0,0,0,0,0,0", "0,0,0,0,0,0,0,0,0,0,0,0,0,0,0,13", "-1,0,0,0,0,0,0,0,0,0,0,0,0,0,0,0",
	}
	for _, text := range []string{fullText, machineText} {
		cuts := regexp.MustCompile(`[^ \n]+`).FindAllStringIndex(text, -1)
		for _, cut := range cuts {
			for _, word := range words {
				checkText(t, text[:cut[0]]+word+text[cut[1]:])
				checkText(t, text[:cut[1]]+" "+word+text[cut[1]:])
			}
		}
	}
}

func TestP15ParseProject(t *testing.T) {
	const setup = "0,1,1,1,2,0,1,1,1,1,0,1,1,1,1,0"
	one := "activity a 0 1/-/-\n"
	two := one + "activity b 0 1/-/-\n"
	used := "activity a 0 1/0/-\n"
	good := []string{
		"deadline 1\n" + one,
		"deadline 60\n" + one,
		"deadline 9\nresource 0:1\n" + used,
		"deadline 9\nresource 0:1 " + setup + "\n" + used,
		"deadline 9\nresource 0:1 " + strings.TrimSuffix(setup, "0") + "12\n" + used,
		"deadline 9\n" + two + "start a b 0\n",
		"deadline 9\n" + two + "end b a -60\nend b a -60\nstart a b 60\n",
		"deadline 9\n" + two + strings.Repeat("start a b 1\n", 12),
		"deadline 9\nactivity end 3 12/-/-\nactivity start 0 1/-/- 1/-/- 1/-/-\nstart end start 1\nend start end 2\n",
	}
	for _, text := range good {
		if p, ok := impl.ParseProject(text); !ok || impl.FormatProject(p) != text {
			t.Errorf("ParseProject(%q) = %+v, %v", text, p, ok)
		}
		checkText(t, text)
	}
	bad := []string{
		"", "\n", " ", "deadline", "deadline\n", "deadline \n", "deadline 9", "deadline 9\n", one, two, "x\n", "# deadline 9\n",
		"deadline 0\n" + one, "deadline 61\n" + one, "deadline -1\n" + one, "deadline 09\n" + one, "deadline +9\n" + one, "deadline  9\n" + one, "deadline 9 \n" + one, " deadline 9\n" + one,
		"deadline 9 9\n" + one, "deadline 9\ndeadline 9\n" + one, "deadline 8\ndeadline 9\n" + one, one + "deadline 9\n", "Deadline 9\n" + one, "deadline\t9\n" + one, "deadline 9\r\n" + one,
		"deadline 18446744073709551625\n" + one, "deadline 100001\n" + one,
		"deadline 9\n" + strings.TrimSuffix(one, "\n"), "deadline 9\n" + one + "\n", "deadline 9\n\n" + one, "\ndeadline 9\n" + one, "deadline 9\n" + one + " ", "deadline 9\n" + one + "\x00",
		"deadline 9\nactivity\n", "deadline 9\nactivity a\n", "deadline 9\nactivity a 0\n", "deadline 9\nactivity a 0 \n", "deadline 9\nactivity a 0 1/-/- \n", "deadline 9\nactivity a 0  1/-/-\n",
		"deadline 9\nactivity a 4 1/-/-\n", "deadline 9\nactivity a -1 1/-/-\n", "deadline 9\nactivity a 00 1/-/-\n", "deadline 9\nactivity A 0 1/-/-\n", "deadline 9\nactivity  0 1/-/-\n", "deadline 9\nactivity abcdefghi 0 1/-/-\n",
		"deadline 9\nactivity a 0 1/-/- 1/-/- 1/-/- 1/-/-\n", "deadline 9\nactivity a 0 0/-/-\n", "deadline 9\nactivity a 0 13/-/-\n", "deadline 9\nactivity a 0 1/0/-\n", "deadline 9\nactivity a 0 1/-/0\n", "deadline 9\nactivity a 0 1/-\n",
		"deadline 9\n" + one + one, "deadline 9\n" + two + one,
		"deadline 9\nresource\n" + used, "deadline 9\nresource \n" + used, "deadline 9\nresource -\n" + used, "deadline 9\nresource 1:1\n" + used, "deadline 9\nresource 0:21\n" + used, "deadline 9\nresource 0:1,61:1\n" + used, "deadline 9\nresource 0:1\n" + one,
		"deadline 9\nresource 0:1 -\n" + used, "deadline 9\nresource 0:1 \n" + used, "deadline 9\nresource 0:1  " + setup + "\n" + used, "deadline 9\nresource " + setup + "\n" + used,
		"deadline 9\nresource 0:1 " + setup + " \n" + used, "deadline 9\nresource 0:1 " + setup + " " + setup + "\n" + used, "deadline 9\nresource 0:1 " + setup + ",0\n" + used, "deadline 9\nresource 0:1 " + setup + "," + setup + "\n" + used,
		"deadline 9\nresource 0:1 " + strings.TrimSuffix(setup, ",0") + "\n" + used, "deadline 9\nresource 0:1 " + strings.TrimSuffix(setup, "0") + "13\n" + used, "deadline 9\nresource 0:1 " + strings.TrimSuffix(setup, "0") + "-1\n" + used, "deadline 9\nresource 0:1 0\n" + used,
		"deadline 9\n" + used + "resource 0:1\n", "resource 0:1\ndeadline 9\n" + used,
		"deadline 9\nstock\nactivity a 0 1/-/0\n", "deadline 9\nstock -1\nactivity a 0 1/-/0\n", "deadline 9\nstock 101\nactivity a 0 1/-/0\n", "deadline 9\nstock 1 1\nactivity a 0 1/-/0,0\n", "deadline 9\nactivity a 0 1/-/0\nstock 1\n", "deadline 9\nstock 1\nresource 0:1\nactivity a 0 1/0/0\n",
		"deadline 9\nstart a b 0\n" + two, "deadline 9\n" + one + "start a b 0\nactivity b 0 1/-/-\n",
		"deadline 9\n" + two + "start a a 0\n", "deadline 9\n" + two + "start a c 0\n", "deadline 9\n" + two + "start c b 0\n", "deadline 9\n" + two + "start c d 0\n", "deadline 9\n" + two + "start 0 1 0\n", "deadline 9\n" + two + "start -1 b 0\n", "deadline 9\n" + two + "start  b 0\n",
		"deadline 9\n" + two + "start a b\n", "deadline 9\n" + two + "start a b 0 0\n", "deadline 9\n" + two + "start a b 0 \n", "deadline 9\n" + two + "start\n", "deadline 9\n" + two + "end\n", "deadline 9\n" + two + "start a b 61\n", "deadline 9\n" + two + "end a b -61\n", "deadline 9\n" + two + "start a b -0\n", "deadline 9\n" + two + "start a b x\n",
		"deadline 9\n" + two + "link a b 0\n", "deadline 9\n" + two + "Start a b 0\n", "deadline 9\n" + two + "starts a b 0\n",
		"deadline 9\n" + two + strings.Repeat("start a b 1\n", 13),
		fullText + "start a b1 0\n", "\ufeff" + machineText,
	}
	for _, text := range bad {
		checkNoProject(t, text)
	}
}

func TestP15ParseProjectOfLongTexts(t *testing.T) {
	var lines strings.Builder
	lines.WriteString("deadline 9\n")
	for i := range 50000 {
		fmt.Fprintf(&lines, "activity a%d 0 1/-/-\n", i)
	}
	many := lines.String()
	pieces := []string{
		"\n", " ", "x", "0", "deadline 9\n", "deadline ", "stock 1\n", "stock ", "resource 0:1\n", "resource ", "0:1,", "activity a 0 1/-/-\n", "activity ", "start a b 0\n", "start ",
	}
	for _, piece := range pieces {
		checkNoProject(t, strings.Repeat(piece, 100000))
		checkNoProject(t, machineText+strings.Repeat(piece, 100000))
	}
	checkNoProject(t, many)
	checkNoProject(t, many+strings.Repeat("start a0 a1 0\n", 50000))
	checkNoProject(t, many+strings.Repeat("end a49999 a49998 0\n", 50000))
	checkNoProject(t, "deadline 9\nactivity a 0"+strings.Repeat(" 1/-/-", 100000)+"\n")
	checkNoProject(t, "deadline 9\nactivity "+strings.Repeat("a", 1000000)+" 0 1/-/-\n")
	checkNoProject(t, "deadline "+strings.Repeat("9", 1000000)+"\nactivity a 0 1/-/-\n")
}

func TestP15FormatLinkTable(t *testing.T) {
	p := full()
	p.Links = nil
	cases := []struct {
		k    impl.Link
		want string
	}{
		{link(0, 1, false, 0), "start a b1 0"},
		{link(0, 1, true, 0), "end a b1 0"},
		{link(1, 0, false, 7), "start b1 a 7"},
		{link(5, 3, true, -60), "end start abcdefgh -60"},
		{link(4, 2, true, 60), "end z9 c 60"},
		{link(0, 0, false, 0), ""},
		{link(0, 6, false, 0), ""},
		{link(6, 0, false, 0), ""},
		{link(-1, 0, false, 0), ""},
		{link(0, -1, false, 0), ""},
		{link(0, 1, false, 61), ""},
		{link(0, 1, true, -61), ""},
	}
	for _, c := range cases {
		if got := impl.FormatLink(p, c.k); got != c.want {
			t.Errorf("%s = %q, want %q", callOf("FormatLink", c.k), got, c.want)
		}
	}
	machine, _ := impl.ParseProject(machineText)
	if got := impl.FormatLink(machine, machine.Links[0]); got != "start b a -4" {
		t.Errorf("FormatLink of a link that is there already = %q", got)
	}
}

func TestP15FormatLink(t *testing.T) {
	indexes := ints(math.MinInt, -2, -1, 0, 1, 2, 3, 4, 5, 6, 7, math.MaxInt)
	lags := ints(math.MinInt, -62, -61, -60, -59, -1, 0, 1, 59, 60, 61, 62, math.MaxInt)
	for _, count := range ints(0, 5, 11, 12, 13) {
		p := full()
		p.Links = append(p.Links, p.Links...)[:count]
		for _, from := range indexes {
			for _, to := range indexes {
				for _, lag := range lags {
					for _, fromEnd := range []bool{false, true} {
						k := link(from, to, fromEnd, lag)
						ok := count < 12 && from >= 0 && from <= 5 && to >= 0 && to <= 5 && from != to && lag >= -60 && lag <= 60
						want := ""
						if ok {
							want = linkText(p, k)
						}
						if got := impl.FormatLink(p, k); got != want {
							t.Errorf("%s with %d links = %q, want %q", callOf("FormatLink", k), count, got, want)
						}
					}
				}
			}
		}
	}
}

func TestP15FormatLinkInAnyProject(t *testing.T) {
	for _, v := range variants() {
		for _, k := range []impl.Link{link(0, 1, false, 0), link(1, 0, true, -3)} {
			want := ""
			if v.ok && len(v.p.Activities) > 1 && len(v.p.Links) < 12 {
				want = linkText(v.p, k)
			}
			if got := impl.FormatLink(v.p, k); got != want {
				t.Errorf("%s in a project with %s = %q, want %q", callOf("FormatLink", k), v.name, got, want)
			}
		}
	}
	p := chain(2)
	p.Links = slices.Repeat([]impl.Link{link(0, 1, false, 0)}, 100000)
	if got := impl.FormatLink(p, link(0, 1, false, 0)); got != "" {
		t.Errorf("FormatLink with many links = %q", got)
	}
}

func TestP1AFormattedLinkIsALineOfItsProject(t *testing.T) {
	for seed := range int64(500) {
		p := randomProject(seed)
		lines := strings.Split(impl.FormatProject(p), "\n")
		for i, k := range p.Links {
			q := p
			q.Links = p.Links[:i]
			if got, want := impl.FormatLink(q, k), lines[len(lines)-1-len(p.Links)+i]; got != want {
				t.Errorf("%s = %q, want %q", callOf("FormatLink", k), got, want)
			}
		}
	}
}

func TestP15ProjectStats(t *testing.T) {
	machine, _ := impl.ParseProject(machineText)
	same(t, "ProjectStats of a full project", impl.ProjectStats(full()), ints(6, 12, 12, 3, 2))
	same(t, "ProjectStats of a machine", impl.ProjectStats(machine), ints(2, 3, 1, 1, 1))
	same(t, "ProjectStats of one activity", impl.ProjectStats(chain(1)), ints(1, 1, 0, 0, 0))
	same(t, "ProjectStats of six activities", impl.ProjectStats(chain(6)), ints(6, 6, 0, 0, 0))
	for resources := range 4 {
		for stocks := range 3 {
			same(t, callOf("ProjectStats", resources, stocks), impl.ProjectStats(plain(resources, stocks)), ints(1, 1, 0, resources, stocks))
		}
	}
	for _, v := range variants() {
		var want []int
		if v.ok {
			modes := 0
			for _, a := range v.p.Activities {
				modes += len(a.Modes)
			}
			want = ints(len(v.p.Activities), modes, len(v.p.Links), len(v.p.Resources), len(v.p.Stocks))
		}
		same(t, "ProjectStats with "+v.name, impl.ProjectStats(v.p), want)
	}
}

func TestP15ProjectTextsLeaveTheirArgumentsAlone(t *testing.T) {
	for _, v := range variants() {
		p, kept := roomy(v.p)
		text := impl.FormatProject(p)
		impl.FormatLink(p, link(0, 1, false, 0))
		stats := impl.ProjectStats(p)
		checkNew(t, "ProjectStats with "+v.name, stats, p)
		overwrite(stats, -9)
		checkNew(t, "FormatProject with "+v.name, text, p)
		q, _ := impl.ParseProject(text)
		checkNew(t, "ParseProject with "+v.name, q, p, text)
		spoil(q)
		if !kept() {
			t.Errorf("a function of chapter 7 changes its argument, a project with %s", v.name)
		}
	}
}

func TestP15ProjectTextsKeepNoState(t *testing.T) {
	for range 2 {
		checkProject(t, fullText, full(), true)
		p, _ := impl.ParseProject(fullText)
		spoil(p)
		stats := impl.ProjectStats(full())
		same(t, "ProjectStats after its last result was changed", stats, ints(6, 12, 12, 3, 2))
		overwrite(stats, -9)
	}
}
