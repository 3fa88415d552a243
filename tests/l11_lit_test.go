package tests

import (
	"cmp"
	"fmt"
	"math"
	"math/rand"
	"slices"
	"strings"
	"testing"

	"loop.example/g00806/impl"
)

func lit(kind, a, value int) impl.Literal {
	return impl.Literal{Kind: kind, Activity: a, Value: value}
}

// literalsOf are all literals that a valid project has, in ascending order, with the numbers of the document.
func literalsOf(p impl.Project) []impl.Literal {
	var all []impl.Literal
	for a, activity := range p.Activities {
		for kind := 1; kind <= 2; kind++ {
			for value := -1; value <= 61; value++ {
				all = append(all, lit(kind, a, value))
			}
		}
		for kind := 3; kind <= 4; kind++ {
			for value := range activity.Modes {
				all = append(all, lit(kind, a, value))
			}
		}
	}
	return all
}

// isTrue tells whether a literal of one of the four kinds is true for an activity with this start and this mode.
func isTrue(l impl.Literal, start, mode int) bool {
	is := map[int]bool{1: !(start < l.Value), 2: !(start > l.Value), 3: mode == l.Value, 4: !(mode == l.Value)}
	return is[l.Kind]
}

// signs are those of the kinds 1 to 4.
func signs() []string {
	return []string{">=", "<=", "=", "!="}
}

// literalTexts are the texts of all literals that a project has, as chapter 12 describes them.
func literalTexts(p impl.Project) map[string]impl.Literal {
	all := map[string]impl.Literal{}
	for _, l := range literalsOf(p) {
		all[fmt.Sprintf("%s%s%d", p.Activities[l.Activity].Name, signs()[l.Kind-1], l.Value)] = l
	}
	return all
}

// nested is a project in which most names are the beginning of another one, which goes on with a digit or a letter.
func nested() impl.Project {
	p := chain(6)
	for a, name := range []string{"a", "a1", "a10", "a1b", "a1b2c3d4", "b1"} {
		p.Activities[a].Name = name
		for range a % 3 {
			p.Activities[a].Modes = append(p.Activities[a].Modes, mode(4, nil, nil))
		}
	}
	return p
}

func literalProjects(t *testing.T) map[string]impl.Project {
	return map[string]impl.Project{"full": full(), "tiny": tiny(t), "one activity": chain(1), "nested": nested(), "three modes": lasting(chain(2), 1, 1, 2, 3)}
}

// farValues are values near the limits of literals, of Negate and of int.
func farValues() []int {
	return ints(math.MinInt, math.MinInt+1, -100002, -100001, -100000, -99999, -60, -3, -2, -1, 0, 1, 2, 3, 4, 5, 30, 59, 60, 61, 62, 63, 99999, 100000, 100001, 100002, math.MaxInt-1, math.MaxInt)
}

// otherKinds are no kinds of literals.
func otherKinds() []int {
	return ints(math.MinInt, math.MinInt+1, -4, -3, -2, -1, 0, 5, 6, 7, 100, math.MaxInt-1, math.MaxInt)
}

func TestKindsOfLiterals(t *testing.T) {
	for i, kind := range ints(impl.LitAtLeast, impl.LitAtMost, impl.LitMode, impl.LitNotMode) {
		checkInt(t, fmt.Sprint("the kind at ", i), kind, i+1)
	}
}

// checkOneHolds expects that a literal holds for a schedule if the document says so, and its negation, if it has one, otherwise.
func checkOneHolds(t *testing.T, l impl.Literal, s impl.Schedule) {
	t.Helper()
	want := isTrue(l, s.Starts[l.Activity], s.Modes[l.Activity])
	checkBool(t, callOf("LiteralHolds", l, s), impl.LiteralHolds(l, s), want)
	if l.Value < -100000 || l.Value > 100000 {
		return
	}
	checkBool(t, callOf("LiteralHolds of the negation", l, s), impl.LiteralHolds(impl.Negate(l), s), !want)
}

func TestP5ALiteralOrItsNegationIsTrueForEverySchedule(t *testing.T) {
	p := tiny(t)
	for _, s := range earlySchedules(p, 4) {
		for a := range s.Starts {
			for kind := 1; kind <= 4; kind++ {
				for value := -2; value <= 6; value++ {
					checkOneHolds(t, lit(kind, a, value), s)
				}
			}
		}
	}
}

func TestP5ALiteralOrItsNegationIsTrueForAllValues(t *testing.T) {
	for start := -3; start <= 63; start++ {
		for value := -5; value <= 65; value++ {
			for kind := 1; kind <= 4; kind++ {
				checkOneHolds(t, lit(kind, 1, value), placed(9, 9, start, start, 9, 9))
			}
		}
	}
	for _, n := range farValues() {
		for _, value := range farValues() {
			for kind := 1; kind <= 4; kind++ {
				checkOneHolds(t, lit(kind, 0, value), placed(n, 0))
				checkOneHolds(t, lit(kind, 0, value), placed(0, n))
				checkOneHolds(t, lit(kind, 2, value), placed(0, 0, 0, 0, n, n))
			}
		}
	}
}

func TestP5ALiteralOrItsNegationIsTrueInValidProjects(t *testing.T) {
	for i, x := range scheduledProjects() {
		if i%5 == 0 {
			for _, l := range literalsOf(x.p) {
				checkOneHolds(t, l, x.s)
			}
		}
	}
}

func TestP5TheNegationOfTheNegationIsTheLiteral(t *testing.T) {
	for kind := 1; kind <= 4; kind++ {
		for value := -100000; value <= 100000; value++ {
			l := lit(kind, value%7, value)
			want := l
			if kind == 1 && value == -100000 || kind == 2 && value == 100000 {
				// The value of the negation is too great or too small to be negated.
				want = impl.Literal{}
			}
			if got := impl.Negate(impl.Negate(l)); got != want {
				t.Errorf("Negate twice of %+v = %+v, want %+v", l, got, want)
			}
		}
	}
}

// checkNegation expects the result of Negate.
func checkNegation(t *testing.T, l, want impl.Literal) {
	t.Helper()
	if got := impl.Negate(l); got != want {
		t.Errorf("Negate of %+v = %+v, want %+v", l, got, want)
	}
}

func TestP15NegateTable(t *testing.T) {
	for _, c := range [][2]impl.Literal{
		{lit(1, 3, 5), lit(2, 3, 4)}, {lit(2, 3, 5), lit(1, 3, 6)}, {lit(3, 3, 5), lit(4, 3, 5)}, {lit(4, 3, 5), lit(3, 3, 5)},
		{lit(1, 0, 0), lit(2, 0, -1)}, {lit(2, 0, 0), lit(1, 0, 1)}, {lit(3, 0, 0), lit(4, 0, 0)}, {lit(4, 0, 0), lit(3, 0, 0)},
		{lit(1, 1, -1), lit(2, 1, -2)}, {lit(2, 1, -1), lit(1, 1, 0)}, {lit(1, 5, 61), lit(2, 5, 60)}, {lit(2, 5, 61), lit(1, 5, 62)},
		{lit(1, 2, -100000), lit(2, 2, -100001)}, {lit(2, 2, -100000), lit(1, 2, -99999)}, {lit(3, 2, -100000), lit(4, 2, -100000)}, {lit(4, 2, -100000), lit(3, 2, -100000)},
		{lit(1, 2, 100000), lit(2, 2, 99999)}, {lit(2, 2, 100000), lit(1, 2, 100001)}, {lit(3, 2, 100000), lit(4, 2, 100000)}, {lit(4, 2, 100000), lit(3, 2, 100000)},
		{lit(1, 2, -99999), lit(2, 2, -100000)}, {lit(2, 2, 99999), lit(1, 2, 100000)},
		{lit(1, -1, 7), lit(2, -1, 6)}, {lit(2, math.MinInt, 7), lit(1, math.MinInt, 8)}, {lit(3, math.MaxInt, 7), lit(4, math.MaxInt, 7)}, {lit(4, 6, 7), lit(3, 6, 7)},
		{lit(0, 3, 5), {}}, {lit(5, 3, 5), {}}, {lit(-1, 3, 5), {}}, {{}, {}},
	} {
		checkNegation(t, c[0], c[1])
	}
}

func TestP15NegateOfOtherValuesAndKinds(t *testing.T) {
	for _, a := range ints(math.MinInt, -1, 0, 1, 5, 6, math.MaxInt) {
		for kind := 1; kind <= 4; kind++ {
			for _, value := range ints(math.MinInt, math.MinInt+1, -200000, -100002, -100001, 100001, 100002, 200000, math.MaxInt-1, math.MaxInt) {
				checkNegation(t, lit(kind, a, value), impl.Literal{})
			}
		}
		for _, kind := range otherKinds() {
			for _, value := range farValues() {
				checkNegation(t, lit(kind, a, value), impl.Literal{})
			}
		}
	}
}

func TestP15LiteralHoldsTable(t *testing.T) {
	s := placed(7, 1, 0, 0, 60, 2)
	cases := []struct {
		l    impl.Literal
		want bool
	}{
		{lit(1, 0, 6), true}, {lit(1, 0, 7), true}, {lit(1, 0, 8), false}, {lit(2, 0, 6), false}, {lit(2, 0, 7), true}, {lit(2, 0, 8), true},
		{lit(1, 1, -1), true}, {lit(1, 1, 0), true}, {lit(1, 1, 1), false}, {lit(2, 1, -1), false}, {lit(2, 1, 0), true}, {lit(2, 1, 1), true},
		{lit(1, 2, 59), true}, {lit(1, 2, 60), true}, {lit(1, 2, 61), false}, {lit(2, 2, 59), false}, {lit(2, 2, 60), true}, {lit(2, 2, 61), true},
		{lit(3, 0, 0), false}, {lit(3, 0, 1), true}, {lit(3, 0, 2), false}, {lit(3, 0, 7), false}, {lit(4, 0, 0), true}, {lit(4, 0, 1), false}, {lit(4, 0, 2), true}, {lit(4, 0, 7), true},
		{lit(3, 1, 0), true}, {lit(3, 1, -1), false}, {lit(3, 2, 2), true}, {lit(3, 2, 3), false}, {lit(4, 1, 0), false}, {lit(4, 1, -1), true}, {lit(4, 2, 2), false}, {lit(4, 2, 3), true},
		{lit(1, 3, 0), false}, {lit(2, 3, 60), false}, {lit(3, 3, 0), false}, {lit(4, 3, 0), false}, {lit(4, 3, 5), false}, {lit(1, 3, math.MinInt), false}, {lit(2, 3, math.MaxInt), false},
		{lit(1, -1, 0), false}, {lit(2, -1, 60), false}, {lit(3, -1, 2), false}, {lit(4, -1, 0), false}, {lit(4, math.MinInt, 0), false}, {lit(4, math.MaxInt, 0), false}, {lit(2, math.MinInt, 60), false}, {lit(1, math.MaxInt, 0), false},
		{lit(1, 0, math.MinInt), true}, {lit(1, 0, math.MaxInt), false}, {lit(2, 0, math.MinInt), false}, {lit(2, 0, math.MaxInt), true}, {lit(3, 0, math.MinInt), false}, {lit(4, 0, math.MaxInt), true},
	}
	for _, c := range cases {
		checkBool(t, callOf("LiteralHolds", c.l, s), impl.LiteralHolds(c.l, s), c.want)
	}
}

func TestP15LiteralHoldsOfOtherKinds(t *testing.T) {
	for _, kind := range otherKinds() {
		for a := -1; a <= 2; a++ {
			for value := -1; value <= 61; value++ {
				l := lit(kind, a, value)
				checkBool(t, callOf("LiteralHolds", l), impl.LiteralHolds(l, placed(0, 0, 30, 2)), false)
			}
		}
	}
	checkBool(t, "LiteralHolds of the zero values", impl.LiteralHolds(impl.Literal{}, impl.Schedule{}), false)
}

func TestP15LiteralHoldsForListsOfAllLengths(t *testing.T) {
	for starts := range 9 {
		for modes := range 9 {
			s := impl.Schedule{Starts: make([]int, starts), Modes: make([]int, modes)}
			for a := -2; a <= 9; a++ {
				both := a >= 0 && a < starts && a < modes
				for _, l := range []impl.Literal{lit(1, a, 0), lit(2, a, 0), lit(3, a, 0), lit(4, a, 1)} {
					checkBool(t, callOf("LiteralHolds", l, s), impl.LiteralHolds(l, s), both)
				}
				for _, l := range []impl.Literal{lit(1, a, 1), lit(2, a, -1), lit(3, a, 1), lit(4, a, 0)} {
					checkBool(t, callOf("LiteralHolds", l, s), impl.LiteralHolds(l, s), false)
				}
			}
		}
	}
}

func TestP15LiteralHoldsWithinTheCapacityOfShorterLists(t *testing.T) {
	starts, modes := ints(5, 6, 7), ints(0, 1, 2)
	for _, s := range []impl.Schedule{{Starts: starts[:2], Modes: modes}, {Starts: starts, Modes: modes[:2]}, {Starts: starts[:2], Modes: modes[:2]}, {Starts: starts}, {Modes: modes}, {Starts: starts, Modes: []int{}}, {Starts: []int{}, Modes: modes}, {Starts: starts[:0], Modes: modes[:0]}} {
		for _, l := range []impl.Literal{lit(1, 2, 7), lit(2, 2, 7), lit(3, 2, 2), lit(4, 2, 0)} {
			checkBool(t, callOf("LiteralHolds", l, s), impl.LiteralHolds(l, s), false)
			checkBool(t, callOf("LiteralHolds of the whole lists", l), impl.LiteralHolds(l, impl.Schedule{Starts: starts, Modes: modes}), true)
		}
	}
}

func TestP15LiteralOk(t *testing.T) {
	kinds := append(otherKinds(), 1, 2, 3, 4)
	activities := ints(math.MinInt, math.MinInt+1, -2, -1, 0, 1, 2, 3, 4, 5, 6, 7, math.MaxInt-1, math.MaxInt)
	for name, p := range literalProjects(t) {
		known := map[impl.Literal]bool{}
		for _, l := range literalsOf(p) {
			known[l] = true
		}
		for _, kind := range kinds {
			for _, a := range activities {
				for _, value := range farValues() {
					l := lit(kind, a, value)
					checkBool(t, fmt.Sprintf("LiteralOk of %+v with %s", l, name), impl.LiteralOk(p, l), known[l])
					if !known[l] {
						checkNoLiteral(t, name, p, l)
					}
				}
			}
		}
		for l := range known {
			checkBool(t, fmt.Sprintf("LiteralOk of %+v with %s", l, name), impl.LiteralOk(p, l), true)
		}
	}
}

// checkNoLiteral expects what the functions return for a literal that is not LiteralOk.
func checkNoLiteral(t *testing.T, name string, p impl.Project, l impl.Literal) {
	t.Helper()
	checkBool(t, fmt.Sprintf("LiteralOk of %+v with %s", l, name), impl.LiteralOk(p, l), false)
	if got := impl.FormatLiteral(p, l); got != "" {
		t.Errorf("FormatLiteral of %+v with %s = %q", l, name, got)
	}
}

func TestP15LiteralOkTable(t *testing.T) {
	// The activities of a full project have 1, 2, 3, 1, 2 and 3 modes.
	cases := []struct {
		l    impl.Literal
		want bool
	}{
		{lit(1, 0, -2), false}, {lit(1, 0, -1), true}, {lit(1, 0, 0), true}, {lit(1, 0, 60), true}, {lit(1, 0, 61), true}, {lit(1, 0, 62), false},
		{lit(2, 5, -2), false}, {lit(2, 5, -1), true}, {lit(2, 5, 0), true}, {lit(2, 5, 60), true}, {lit(2, 5, 61), true}, {lit(2, 5, 62), false},
		{lit(1, -1, 0), false}, {lit(1, 6, 0), false}, {lit(2, -1, 0), false}, {lit(2, 6, 0), false}, {lit(3, -1, 0), false}, {lit(3, 6, 0), false}, {lit(4, -1, 0), false}, {lit(4, 6, 0), false},
		{lit(3, 0, -1), false}, {lit(3, 0, 0), true}, {lit(3, 0, 1), false}, {lit(3, 1, 1), true}, {lit(3, 1, 2), false}, {lit(3, 2, 2), true}, {lit(3, 2, 3), false}, {lit(3, 3, 1), false}, {lit(3, 5, 2), true}, {lit(3, 5, 3), false},
		{lit(4, 0, -1), false}, {lit(4, 0, 0), true}, {lit(4, 0, 1), false}, {lit(4, 1, 1), true}, {lit(4, 1, 2), false}, {lit(4, 2, 2), true}, {lit(4, 2, 3), false}, {lit(4, 4, 1), true}, {lit(4, 4, 2), false}, {lit(4, 4, 60), false},
		{lit(0, 0, 0), false}, {lit(5, 0, 0), false}, {lit(-1, 0, 0), false}, {lit(math.MinInt, 0, 0), false}, {lit(math.MaxInt, 0, 0), false},
	}
	for _, c := range cases {
		checkBool(t, callOf("LiteralOk", c.l), impl.LiteralOk(full(), c.l), c.want)
	}
}

func TestP15LiteralsDoNotDependOnTheDeadline(t *testing.T) {
	for deadline := 1; deadline <= 60; deadline++ {
		p := chain(2)
		p.Deadline = deadline
		for value := -3; value <= 63; value++ {
			for kind := 1; kind <= 2; kind++ {
				l := lit(kind, 1, value)
				checkBool(t, callOf("LiteralOk", deadline, l), impl.LiteralOk(p, l), value >= -1 && value <= 61)
			}
		}
	}
}

func TestP15LiteralsOfProjectsThatAreNotValid(t *testing.T) {
	for _, v := range badNetworks() {
		for kind := range 6 {
			for _, a := range ints(-1, 0, 1, 5, 6, math.MaxInt) {
				for _, value := range ints(-1, 0, 1, 61) {
					checkNoLiteral(t, v.name, v.p, lit(kind, a, value))
				}
			}
		}
		for _, text := range []string{"", "a", "a>=0", "a<=60", "a=0", "a!=0", "b1=1", "a0>=0", "a0=0", "a0!=0", ">=0", "=0", "a>=", "A>=0", "a b>=0"} {
			checkLiteral(t, v.p, nil, text)
		}
	}
}

// checkLiteral expects the literal that has this text, or the zero value and false.
func checkLiteral(t *testing.T, p impl.Project, texts map[string]impl.Literal, text string) {
	t.Helper()
	want, known := texts[text]
	got, ok := impl.ParseLiteral(p, text)
	if got != want || ok != known {
		t.Errorf("ParseLiteral(%.40q) = %+v, %v, want %+v, %v", text, got, ok, want, known)
	}
}

func TestP1LiteralsAreRecovered(t *testing.T) {
	all := literalProjects(t)
	for seed := range int64(60) {
		all[fmt.Sprint("the random project ", seed)] = randomProject(seed)
	}
	for name, p := range all {
		texts := literalTexts(p)
		checkInt(t, "the number of different texts of "+name, len(texts), len(literalsOf(p)))
		for text, l := range texts {
			if got := impl.FormatLiteral(p, l); got != text {
				t.Errorf("FormatLiteral of %+v with %s = %q, want %q", l, name, got, text)
			}
			checkLiteral(t, p, texts, text)
		}
	}
}

func TestP1LiteralTexts(t *testing.T) {
	p := full()
	cases := map[string]impl.Literal{
		"a>=0": lit(1, 0, 0), "a>=-1": lit(1, 0, -1), "a<=-1": lit(2, 0, -1), "b1>=61": lit(1, 1, 61), "b1<=61": lit(2, 1, 61), "c<=0": lit(2, 2, 0), "abcdefgh>=10": lit(1, 3, 10), "start<=60": lit(2, 5, 60),
		"a=0": lit(3, 0, 0), "a!=0": lit(4, 0, 0), "b1=1": lit(3, 1, 1), "b1!=1": lit(4, 1, 1), "c=2": lit(3, 2, 2), "z9!=1": lit(4, 4, 1), "start=0": lit(3, 5, 0), "start!=2": lit(4, 5, 2),
	}
	for text, l := range cases {
		if got := impl.FormatLiteral(p, l); got != text {
			t.Errorf("FormatLiteral of %+v = %q, want %q", l, got, text)
		}
		checkLiteral(t, p, cases, text)
	}
}

func TestP1NamesThatBeginAlikeAndEndInDigits(t *testing.T) {
	p := nested()
	texts := literalTexts(p)
	cases := map[string]impl.Literal{
		"a>=1": lit(1, 0, 1), "a1>=1": lit(1, 1, 1), "a10>=1": lit(1, 2, 1), "a10>=0": lit(1, 2, 0), "a1>=10": lit(1, 1, 10), "a1b<=1": lit(2, 3, 1), "a1b2c3d4<=4": lit(2, 4, 4),
		"a1=1": lit(3, 1, 1), "a10=1": lit(3, 2, 1), "a10!=2": lit(4, 2, 2), "b1=0": lit(3, 5, 0), "a1b!=0": lit(4, 3, 0), "a1b2c3d4=1": lit(3, 4, 1),
	}
	for text, l := range cases {
		checkBool(t, text+" is a literal", texts[text] == l, true)
		checkLiteral(t, p, cases, text)
	}
	for _, text := range []string{"a=1", "a1=2", "a10=3", "a1b!=1", "a100>=1", "a11>=1", "a1b2>=0", "a1b2c3d>=0", "a1b2c3d45>=0", "b>=0", "b11>=0", "a1a1>=0", "a,a1>=0", "1a>=0", "10>=0", "0>=0", "1>=1", "-1>=0"} {
		checkLiteral(t, p, texts, text)
		checkBool(t, text+" is no literal", texts[text] == impl.Literal{}, true)
	}
}

// literalLines are the texts of which the tests make others.
func literalLines() []string {
	return []string{"a>=0", "a>=-1", "b1<=61", "b1<=6", "abcdefgh>=59", "start<=10", "c=2", "z9=1", "z9!=1", "start!=0", "a=", "!=", ""}
}

func TestP15LiteralTextsWithOneByteChanged(t *testing.T) {
	for name, p := range map[string]impl.Project{"full": full(), "nested": nested()} {
		texts := literalTexts(p)
		lines := literalLines()
		if name == "nested" {
			lines = []string{"a1>=10", "a10<=1", "a1b=0", "a10!=1"}
		}
		for _, text := range lines {
			for at := range len(text) + 1 {
				head, tail := text[:at], text[at:]
				for _, piece := range []string{"", " ", "  ", "\n", "\t", "=", "<", ">", "!", ">=", "<=", "!=", "~", "-", "+", ",", ".", "/", "@", "0", "1", "2", "3", "6", "9", "a", "b", "z", "A", "_", "\x00", "\xff", "\u00e9", "\u0661", "\u2265", "\u2260"} {
					checkLiteral(t, p, texts, head+piece+tail)
					if tail != "" {
						checkLiteral(t, p, texts, head+piece+tail[1:])
					}
				}
				checkLiteral(t, p, texts, head)
				checkLiteral(t, p, texts, tail)
			}
		}
	}
}

func TestP15LiteralTextsOfAllSignsAndNumbers(t *testing.T) {
	p := full()
	texts := literalTexts(p)
	middles := append(signs(), "", " ", "==", "=>", "=<", "=!", "<", ">", "!", "<>", "><", "!==", ">==", "<==", ">>=", "=>=", "=<=", "!=!", "!>=", ">=>=", ">= ", " >=", "> =", "< =", "! =", ":", "@", "/", "in", "\u2265", "\u2264", "\u2260")
	numbers := []string{"", " ", "-", "+", "-2", "-1", "-0", "0", "+0", "00", "01", "-01", "1", "+1", " 1", "1 ", "2", "3", "4", "10", "010", "59", "60", "61", "62", "100", "610", "99999", "100000", "100001", "-100000", "-100001", "9223372036854775807", "9223372036854775808", "18446744073709551616", "18446744073709551617", "-18446744073709551616", "1.0", "1e1", "0x1", "1_0", "a", "b1", "1a", "1=1", "1\n", "1\x00", "\u0661", "one"}
	for _, name := range []string{"", " ", "a", "b1", "c", "abcdefgh", "z9", "start", "b", "z", "abcdefg", "abcdefghi", "A", "aa", "a ", " a", "a b1", "nobody", "0", "1", "-1", "a=0", "a>", "a<", "a!", "a=", "\n"} {
		for _, sign := range middles {
			for _, number := range numbers {
				checkLiteral(t, p, texts, name+sign+number)
				checkLiteral(t, p, texts, number+sign+name)
			}
		}
	}
}

func TestP15ParseLiteralTable(t *testing.T) {
	p := full()
	bad := []string{
		"", " ", "-", "=", ">=", "<=", "!=", "a", "0", "a0", "a 0", "a>=", "a<=", "a=", "a!=", ">=0", "<=0", "=0", "!=0", "a>0", "a<0", "a!0", "a=>0", "a=<0", "a=!0", "a==0", "a<>0", "a>==0", "a>=>=0", "a>=0>=0", "a=0=0",
		"a>=-2", "a>=62", "a<=-2", "a<=62", "a=-1", "a=1", "a!=-1", "a!=1", "b1=2", "b1!=2", "c=3", "c!=3", "a>=+0", "a>=-0", "a>=00", "a>=01", "a<=+1", "a<=061", "a=00", "a=-0", "a=+0", "a!=00", "a!=-0", "a>=100000", "a>=100001", "a<=18446744073709551616", "a=18446744073709551616",
		" a>=0", "a >=0", "a>= 0", "a> =0", "a>=0 ", "a>=0\n", "a>=0\r\n", "\na>=0", "a\t>=0", "a>=0 b1>=0", "a>=0,", "a>=0a", "a>=a", "b>=0", "B1>=0", "A>=0", "nobody>=0", "0>=0", "-1>=0", "-1=0", "6>=0", "0>=a", "0=a", "a=>=0", "a<>=0", "a!>=0", "abcdefghi>=0", "\ufeffa>=0", "a\u2265" + "0", "a>=0\x00",
	}
	for _, text := range bad {
		checkLiteral(t, p, nil, text)
	}
	for _, text := range []string{"a0>=0", "a>=0", ">=0", "=0", ""} {
		checkLiteral(t, impl.Project{}, nil, text)
	}
	checkLiteral(t, chain(2), nil, "a2>=0")
	checkLiteral(t, chain(2), nil, "a1=1")
	nameless := chain(2)
	nameless.Activities[0].Name = ""
	for _, text := range []string{">=0", "<=0", "=0", "!=0", "a1>=0"} {
		checkLiteral(t, nameless, nil, text)
	}
}

func TestP15ParseLiteralOfLongTexts(t *testing.T) {
	p := full()
	for _, text := range literalLines() {
		for _, piece := range []string{" ", "a", "0", "9", "=", ">", ">=", "!=", "-", "a>=0", "\n", "\x00"} {
			long := strings.Repeat(piece, 100000)
			checkLiteral(t, p, nil, text+long)
			checkLiteral(t, p, nil, long+text)
			checkLiteral(t, p, nil, "a>="+long+text)
			checkLiteral(t, p, nil, "a!=0"+long)
		}
	}
}

// fieldOrder compares the fields in the order of the document, by the first one that differs.
func fieldOrder(a, b impl.Literal) int {
	return slices.Compare(ints(a.Activity, a.Kind, a.Value), ints(b.Activity, b.Kind, b.Value))
}

// checkCompared compares two literals in both orders.
func checkCompared(t *testing.T, a, b impl.Literal, want int) {
	t.Helper()
	checkInt(t, callOf("CompareLiterals", a, b), impl.CompareLiterals(a, b), want)
	checkInt(t, callOf("CompareLiterals", b, a), impl.CompareLiterals(b, a), -want)
}

func TestP15CompareLiteralsTable(t *testing.T) {
	cases := []struct {
		a, b impl.Literal
		want int
	}{
		{lit(1, 2, 3), lit(1, 2, 3), 0}, {lit(1, 2, 3), lit(1, 2, 4), -1}, {lit(1, 2, 3), lit(2, 2, 3), -1}, {lit(1, 2, 3), lit(1, 3, 3), -1},
		{lit(4, 0, 60), lit(1, 1, 0), -1}, {lit(1, 0, 60), lit(4, 1, 0), -1}, {lit(1, 0, 60), lit(2, 0, 0), -1}, {lit(2, 0, 60), lit(3, 0, 0), -1}, {lit(3, 0, 2), lit(4, 0, 0), -1}, {lit(3, 0, 2), lit(3, 0, 9), -1}, {lit(1, 0, 9), lit(1, 0, 10), -1}, {lit(1, 0, -1), lit(1, 0, 0), -1}, {lit(1, 0, -2), lit(1, 0, -1), -1}, {lit(1, -1, 9), lit(1, 0, 0), -1},
		{lit(1, 2, math.MinInt), lit(1, 2, math.MaxInt), -1}, {lit(1, 2, math.MinInt), lit(1, 2, 1), -1}, {lit(1, 2, -2), lit(1, 2, math.MaxInt), -1}, {lit(math.MinInt, 2, 3), lit(math.MaxInt, 2, 3), -1}, {lit(math.MinInt, 2, 3), lit(1, 2, 3), -1}, {lit(1, math.MinInt, 3), lit(1, math.MaxInt, 3), -1}, {lit(1, math.MinInt, 3), lit(1, 1, 3), -1},
		{lit(math.MaxInt, math.MinInt, math.MaxInt), lit(math.MinInt, math.MaxInt, math.MinInt), -1}, {lit(math.MinInt, 0, math.MaxInt), lit(math.MaxInt, 0, math.MinInt), -1},
		{lit(math.MinInt, math.MinInt, math.MinInt), lit(math.MinInt, math.MinInt, math.MinInt), 0}, {lit(math.MaxInt, math.MaxInt, math.MaxInt), lit(math.MaxInt, math.MaxInt, math.MaxInt), 0}, {impl.Literal{}, impl.Literal{}, 0},
	}
	for _, c := range cases {
		checkCompared(t, c.a, c.b, c.want)
	}
}

func TestP15CompareLiterals(t *testing.T) {
	numbers := ints(math.MinInt, -1, 0, 1, 2, math.MaxInt)
	var all []impl.Literal
	for _, a := range numbers {
		for _, kind := range numbers {
			for _, value := range numbers {
				all = append(all, lit(kind, a, value))
			}
		}
	}
	for i, a := range all {
		for j, b := range all {
			checkInt(t, callOf("CompareLiterals", a, b), impl.CompareLiterals(a, b), cmp.Compare(i, j))
		}
	}
	r := rand.New(rand.NewSource(1))
	for range 20000 {
		a, b := lit(r.Intn(4), r.Intn(4), r.Intn(4)), lit(r.Intn(4), r.Intn(4), r.Intn(4))
		checkCompared(t, a, b, fieldOrder(a, b))
	}
}

func TestP15CompareLiteralsSorts(t *testing.T) {
	for seed := range int64(20) {
		want := literalsOf(randomProject(seed))
		got := slices.Clone(want)
		rand.New(rand.NewSource(seed)).Shuffle(len(got), func(i, j int) { got[i], got[j] = got[j], got[i] })
		slices.SortFunc(got, impl.CompareLiterals)
		same(t, "the sorted literals", got, want)
	}
}

func TestP15LiteralSign(t *testing.T) {
	for i, sign := range signs() {
		if got := impl.LiteralSign(i + 1); got != sign {
			t.Errorf("LiteralSign(%d) = %q, want %q", i+1, got, sign)
		}
	}
	for _, n := range otherKinds() {
		if got := impl.LiteralSign(n); got != "" {
			t.Errorf("LiteralSign(%d) = %q", n, got)
		}
	}
}

func TestP15LiteralsLeaveTheirArgumentsAlone(t *testing.T) {
	literals := []impl.Literal{lit(1, 0, 0), lit(2, 1, 61), lit(3, 0, 0), lit(4, 5, 2), lit(1, 6, 0), lit(0, 0, 0), lit(5, -1, 99)}
	for _, v := range variants() {
		p, kept := roomy(v.p)
		starts, startsKept := spare(ints(0, 3, 60, 5, 9, 1), 7)
		modes, modesKept := spare(ints(0, 1, 2, 0, 1, 2), 1)
		s := impl.Schedule{Starts: starts, Modes: modes}
		for _, l := range literals {
			impl.LiteralOk(p, l)
			impl.LiteralHolds(l, s)
			text := impl.FormatLiteral(p, l)
			checkNew(t, "FormatLiteral with "+v.name, text, p)
			impl.ParseLiteral(p, text)
		}
		if !kept() || !startsKept() || !modesKept() {
			t.Errorf("a function of chapter 12 changes its argument, a schedule or a project with %s", v.name)
		}
	}
}

func TestP15NilAndEmptyListsWithLiteralsAreEqual(t *testing.T) {
	for _, p := range []impl.Project{chain(2), deepCopy(chain(2))} {
		texts := literalTexts(p)
		for text, l := range texts {
			checkBool(t, text+" is a literal", impl.LiteralOk(p, l) && impl.FormatLiteral(p, l) == text, true)
			checkLiteral(t, p, texts, text)
		}
	}
	for _, p := range []impl.Project{{}, deepCopy(impl.Project{})} {
		checkNoLiteral(t, "no activities", p, lit(1, 0, 0))
		checkLiteral(t, p, nil, "a>=0")
	}
	for _, s := range []impl.Schedule{{}, {Starts: []int{}, Modes: []int{}}, {Starts: ints(0), Modes: []int{}}, {Starts: []int{}, Modes: ints(0)}} {
		for _, l := range []impl.Literal{lit(1, 0, 0), lit(2, 0, 0), lit(3, 0, 0), lit(4, 0, 1)} {
			checkBool(t, callOf("LiteralHolds", l, s), impl.LiteralHolds(l, s), false)
		}
	}
}

func TestP15LiteralsKeepNoState(t *testing.T) {
	type results struct {
		l, negation impl.Literal
		text, sign  string
		order       int
		answers     [3]bool
	}
	want := results{lit(2, 1, 5), lit(1, 1, 6), "b1<=5", "<=", 1, [3]bool{true, true, false}}
	for range 3 {
		l, ok := impl.ParseLiteral(full(), "b1<=5")
		s := placed(0, 0, 6, 0)
		got := results{l, impl.Negate(l), impl.FormatLiteral(full(), l), impl.LiteralSign(l.Kind), impl.CompareLiterals(l, lit(4, 0, 9)), [3]bool{ok, impl.LiteralOk(full(), l), impl.LiteralHolds(l, s)}}
		if got != want {
			t.Errorf("the functions of chapter 12 return %+v, want %+v", got, want)
		}
		impl.ParseLiteral(nested(), "a10!=2")
		impl.LiteralHolds(impl.Negate(l), s)
		impl.LiteralOk(chain(1), l)
	}
}
