package tests

import (
	"math"
	"regexp"
	"slices"
	"strconv"
	"strings"
	"sync"
	"testing"

	"loop.example/finiterings/impl"
)

// one and many match the texts of a number and of several, however great they are.
var (
	one  = regexp.MustCompile(`^(0|-?[1-9][0-9]*)$`)
	many = regexp.MustCompile(`^(0|-?[1-9][0-9]*)( (0|-?[1-9][0-9]*))*$`)
)

// fourText is the text of the integers by 4.
const fourText = "1 0123/1230/2301/3012 0000/0123/0202/0321"

// numbersText returns the text of numbers.
func numbersText(list []int) string {
	if len(list) == 0 {
		return "-"
	}
	return strings.ReplaceAll(show(list...), ",", " ")
}

// rowsText returns the text of rows of numbers.
func rowsText(rows [][]int) string {
	var texts []string
	for _, row := range rows {
		texts = append(texts, numbersText(row))
	}
	return strings.Join(texts, "|")
}

// numbersFrom returns the numbers of a text, and false if it has none within the limits.
func numbersFrom(s string) ([]int, bool) {
	if s == "-" {
		return nil, true
	}
	if !many.MatchString(s) {
		return nil, false
	}
	words := strings.Fields(s)
	var list []int
	for _, word := range words {
		n, err := strconv.Atoi(word)
		if err != nil || n > 1000000 || n < -1000000 || len(words) > 50 {
			return nil, false
		}
		list = append(list, n)
	}
	return list, true
}

// rowsFrom returns the rows of a text, and false if it has none within the limits.
func rowsFrom(s string) ([][]int, bool) {
	if s == "" {
		return nil, true
	}
	var rows [][]int
	for _, part := range strings.Split(s, "|") {
		row, ok := numbersFrom(part)
		if !ok {
			return nil, false
		}
		rows = append(rows, row)
	}
	return rows, true
}

// areNumbers checks that ParseNumbers returns some numbers and true for a text.
func areNumbers(t *testing.T, s string, want []int) {
	t.Helper()
	if got, ok := impl.ParseNumbers(s); !ok || !slices.Equal(got, want) {
		t.Errorf("ParseNumbers(%.200q) = %v, %v, want %v", s, got, ok, want)
	}
}

// areNoNumbers checks that ParseNumbers returns an empty slice and false for a text.
func areNoNumbers(t *testing.T, s string) {
	t.Helper()
	if got, ok := impl.ParseNumbers(s); len(got) != 0 || ok {
		t.Errorf("ParseNumbers(%.200q) = %v, %v", s, got, ok)
	}
}

// areRows checks that ParseRows returns some rows and true for a text.
func areRows(t *testing.T, s string, want [][]int) {
	t.Helper()
	if got, ok := impl.ParseRows(s); !ok || !slices.EqualFunc(got, want, slices.Equal) {
		t.Errorf("ParseRows(%.200q) = %v, %v, want %v", s, got, ok, want)
	}
}

// areNoRows checks that ParseRows returns no rows and false for a text.
func areNoRows(t *testing.T, s string) {
	t.Helper()
	if got, ok := impl.ParseRows(s); len(got) != 0 || ok {
		t.Errorf("ParseRows(%.200q) = %v, %v", s, got, ok)
	}
}

// hasOutput checks what RunScript returns.
func hasOutput(t *testing.T, script, want string) {
	t.Helper()
	if got := impl.RunScript(script); got != want {
		t.Errorf("RunScript(%.200q) = %.300q, want %.300q", script, got, want)
	}
}

// runs checks the output of a script; in both texts, lines are parted by semicolons.
func runs(t *testing.T, script, want string) {
	t.Helper()
	script = strings.ReplaceAll(script, ";", "\n")
	want = strings.ReplaceAll(want, ";", "\n") + "\n"
	hasOutput(t, script, want)
	hasOutput(t, script+"\n", want)
	hasOutput(t, "\n\n"+strings.ReplaceAll(script, "\n", "\n\n")+"\n\n", want)
}

// A model is what a script should have, which does with the functions what the table tells.
type model struct {
	r    impl.Ring
	a, f []int
}

// newModel returns the model of a script that begins.
func newModel() *model {
	return &model{r: remainders(4), a: []int{0}}
}

// found returns the text of a number that a function returns.
func found(n int) string {
	if n == -1 {
		return "no"
	}
	return strconv.Itoa(n)
}

// ifAny returns a text, and that of none for an empty one.
func ifAny(text string) string {
	if text == "" {
		return "-"
	}
	return text
}

// withRing changes the ring.
func (m *model) withRing(r impl.Ring, ok bool) string {
	if !ok {
		return "no"
	}
	m.r, m.a, m.f = r, []int{0}, nil
	return strconv.Itoa(r.Size)
}

// withIdeal changes the ideal.
func (m *model) withIdeal(a []int, ok bool) string {
	if !ok {
		return "no"
	}
	m.a = a
	return numbersText(a)
}

// withPoly changes the polynomial.
func (m *model) withPoly(f []int, ok bool) string {
	if !ok {
		return "no"
	}
	m.f = f
	return impl.FormatPoly(m.r, f)
}

// ofRing returns the output of a word that tells of the ring.
func (m *model) ofRing(word string) string {
	switch word {
	case "ring":
		return impl.FormatRing(m.r)
	case "units":
		return numbersText(impl.UnitsOf(m.r))
	case "divisors":
		return numbersText(impl.ZeroDivisorsOf(m.r))
	case "nilpotents":
		return numbersText(impl.NilpotentsOf(m.r))
	case "idempotents":
		return numbersText(impl.IdempotentsOf(m.r))
	case "characteristic":
		return found(impl.CharacteristicOf(m.r))
	case "field":
		return strconv.FormatBool(impl.IsField(m.r))
	case "local":
		return strconv.FormatBool(impl.IsLocal(m.r))
	case "height":
		return found(impl.HeightOf(m.r))
	case "residues":
		return numbersText(impl.ResidueSizes(m.r))
	case "primitives":
		return numbersText(impl.PrimitivesOf(m.r))
	case "split":
		var texts []string
		for _, part := range impl.SplitRing(m.r) {
			texts = append(texts, impl.FormatRing(part))
		}
		return ifAny(strings.Join(texts, "\n"))
	case "groups":
		return impl.FormatGroup(impl.SumInvariants(m.r)) + " " + impl.FormatGroup(impl.UnitInvariants(m.r))
	case "primitive":
		return found(impl.PrimitiveUnitOf(m.r))
	case "ideals":
		return rowsText(impl.AllIdeals(m.r))
	}
	return "what"
}

// ofWord returns the output of a line without a rest.
func (m *model) ofWord(word string) string {
	switch word {
	case "quotient":
		r, _, ok := impl.QuotientRing(m.r, m.a)
		return m.withRing(r, ok)
	case "radical":
		return m.withIdeal(impl.RadicalOf(m.r, m.a))
	case "derive":
		return m.withPoly(impl.DerivePoly(m.r, m.f))
	case "ideal":
		return numbersText(m.a)
	case "prime":
		return strconv.FormatBool(impl.IsPrimeIdeal(m.r, m.a))
	case "generator":
		return found(impl.GeneratorOf(m.r, m.a))
	case "classes":
		classes, _ := impl.ClassesOf(m.r, m.a)
		return rowsText(classes)
	case "components":
		components, _ := impl.ComponentsOf(m.r, m.a)
		return ifAny(rowsText(components))
	case "poly":
		return impl.FormatPoly(m.r, m.f)
	case "roots":
		return numbersText(impl.ZerosOf(m.r, m.f))
	}
	return m.ofRing(word)
}

// ofElement returns the output of a word with an element.
func (m *model) ofElement(word string, a int) string {
	switch word {
	case "neg":
		return found(impl.Neg(m.r, a))
	case "inverse":
		return found(impl.InverseOf(m.r, a))
	case "kinds":
		return impl.KindsOf(m.r, a)
	case "parts":
		parts, _ := impl.PartsOf(m.r, a)
		return numbersText(parts)
	case "powers":
		return numbersText(impl.PowersOf(m.r, a))
	case "value":
		return found(impl.EvalPoly(m.r, m.f, a))
	}
	return found(impl.LiftZero(m.r, m.f, a))
}

// ofTwo returns the output of a word with two numbers.
func (m *model) ofTwo(word string, a, b int) string {
	switch word {
	case "add":
		return found(impl.Add(m.r, a, b))
	case "mul":
		return found(impl.Mul(m.r, a, b))
	case "times":
		return found(impl.Times(m.r, a, b))
	case "power":
		return found(impl.Power(m.r, a, b))
	}
	if a < 0 || a >= m.r.Size || b < 0 || b >= m.r.Size {
		return "no"
	}
	return numbersText(impl.SolveLinear(m.r, a, b))
}

// ofList returns the output of a word with the elements of an ideal or the coefficients of a polynomial.
func (m *model) ofList(word string, list []int) string {
	other, _ := impl.IdealOf(m.r, list)
	switch word {
	case "ideal":
		return m.withIdeal(impl.IdealOf(m.r, list))
	case "sum":
		return m.withIdeal(impl.SumIdeal(m.r, m.a, other))
	case "product":
		return m.withIdeal(impl.ProductIdeal(m.r, m.a, other))
	case "meet":
		return m.withIdeal(impl.MeetIdeal(m.r, m.a, other))
	case "colon":
		return m.withIdeal(impl.ColonIdeal(m.r, m.a, other))
	case "poly":
		return m.withPoly(list, impl.PolyValid(m.r, list))
	case "addpoly":
		return m.withPoly(impl.AddPoly(m.r, m.f, list))
	case "mulpoly":
		return m.withPoly(impl.MulPoly(m.r, m.f, list))
	}
	quotient, rest, ok := impl.DividePoly(m.r, m.f, list)
	if !ok {
		return "no"
	}
	return impl.FormatPoly(m.r, quotient) + " " + impl.FormatPoly(m.r, rest)
}

// ofOther returns the output of a word with another ring.
func (m *model) ofOther(word string, s impl.Ring) string {
	if word == "ring" {
		return m.withRing(s, true)
	}
	if word == "homs" {
		maps, ok := impl.AllHoms(m.r, s)
		if !ok {
			return "no"
		}
		return strconv.Itoa(len(maps))
	}
	f, ok := impl.IsomorphismOf(m.r, s)
	if !ok {
		return "no"
	}
	return numbersText(f)
}

// ofRows returns the output of a word with rows.
func (m *model) ofRows(word string, rows [][]int) string {
	n := 0
	for _, row := range rows {
		n = len(row)
	}
	weights, ok := impl.WeightsOf(m.r, n, rows)
	if !ok {
		return "no"
	}
	span, _ := impl.SpanOf(m.r, n, rows)
	dual, _ := impl.DualOf(m.r, n, rows)
	return map[string]string{"span": rowsText(span), "dual": rowsText(dual), "weights": numbersText(weights)}[word]
}

// ofRest returns the output of a line with a rest.
func (m *model) ofRest(word, rest string) string {
	list, areNumbers := numbersFrom(rest)
	s, isMade := impl.MakeRing(rest)
	rows, areRows := rowsFrom(rest)
	switch word {
	case "neg", "inverse", "kinds", "parts", "powers", "value", "lift":
		if areNumbers && len(list) == 1 && 0 <= list[0] && list[0] < m.r.Size {
			return m.ofElement(word, list[0])
		}
	case "add", "mul", "times", "power", "linear":
		if areNumbers && len(list) == 2 {
			return m.ofTwo(word, list[0], list[1])
		}
	case "ideal", "sum", "product", "meet", "colon", "poly", "addpoly", "mulpoly", "divide":
		if areNumbers {
			return m.ofList(word, list)
		}
	case "ring", "homs", "isomorphism":
		if isMade {
			return m.ofOther(word, s)
		}
	case "table":
		return m.withRing(impl.ParseRing(rest))
	case "span", "dual", "weights":
		if areRows {
			return m.ofRows(word, rows)
		}
	default:
		return "what"
	}
	return "no"
}

// run returns the output of a script within the limits of its bytes.
func (m *model) run(script string) string {
	output := ""
	for i, line := range strings.Split(script, "\n") {
		if line == "" {
			continue
		}
		if i >= 100 || len(output) > 40000 {
			return output + "full\n"
		}
		if at := strings.Index(line, " "); at >= 0 {
			output += m.ofRest(line[:at], line[at+1:]) + "\n"
		} else {
			output += m.ofWord(line) + "\n"
		}
	}
	return output
}

// isModelled checks that a script has the output of its model.
func isModelled(t *testing.T, script string) {
	t.Helper()
	hasOutput(t, script, newModel().run(script))
}

// plainWords returns all words of the table that need no rest.
func plainWords() []string {
	return strings.Fields("quotient ring units divisors nilpotents idempotents characteristic field local height residues primitives split groups primitive radical ideal ideals prime generator classes components poly derive roots")
}

// restWords returns all words of the table that need a rest.
func restWords() []string {
	return strings.Fields("ring table add mul times power linear neg inverse kinds parts powers ideal sum product meet colon poly addpoly mulpoly value lift divide homs isomorphism span dual weights")
}

func TestFormatNumbers(t *testing.T) {
	for _, c := range []struct {
		list []int
		want string
	}{
		{nil, "-"},
		{[]int{}, "-"},
		{[]int{0}, "0"},
		{[]int{-1}, "-1"},
		{[]int{1, 0, -3}, "1 0 -3"},
		{[]int{10, 10, 2}, "10 10 2"},
		{[]int{1000000, -1000000}, "1000000 -1000000"},
		{[]int{1000001, -1000001}, "1000001 -1000001"},
		{[]int{math.MaxInt64, math.MinInt64}, "9223372036854775807 -9223372036854775808"},
		{make([]int, 60), strings.Repeat("0 ", 59) + "0"},
	} {
		if got := impl.FormatNumbers(c.list); got != c.want {
			t.Errorf("FormatNumbers(%v) = %q", c.list, got)
		}
	}
}

func TestParseNumbers(t *testing.T) {
	areNumbers(t, "-", nil)
	areNumbers(t, "0", []int{0})
	areNumbers(t, "1 0 -3", []int{1, 0, -3})
	areNumbers(t, "10 100 -10", []int{10, 100, -10})
	areNumbers(t, "1000000 -1000000 999999 -999999", []int{1000000, -1000000, 999999, -999999})
	next := scattered(12)
	for count := range 51 {
		var list []int
		for range count {
			list = append(list, next(2000001)-1000000)
		}
		areNumbers(t, numbersText(list), list)
		if got := impl.FormatNumbers(list); got != numbersText(list) {
			t.Errorf("FormatNumbers(%v) = %q", list, got)
		}
	}
	for _, n := range []int{0, 1, -1, 1000000, -1000000} {
		areNumbers(t, numbersText(slices.Repeat([]int{n}, 50)), slices.Repeat([]int{n}, 50))
	}
}

func TestNoNumbers(t *testing.T) {
	for _, s := range []string{
		"", " ", "  ", "1 ", " 1", " 1 ", "1  2", "1 2 ", "1   2", "- ", " -", "- 1", "1 -", "- -", "--", "--1", "-1-", "1-", "1-2",
		"01", "00", "-0", "-00", "-01", "0 01", "+1", "+0", "1 +2", "1 -0", "+", "+-1", "-+1",
		"1000001", "-1000001", "1 1000001", "10000000", "01000000", "9223372036854775807", "-9223372036854775808", "9223372036854775808", "-9223372036854775809",
		"4294967297", "18446744073709551616", "18446744073709551617", "-18446744073709551615", "100000000000000000000000000000", "1 100000000000000000000000000000",
		"x", "a", "1 x", "1x", "0x1", "0b1", "1_0", "1_000", "1e3", "1.0", ".", "1,2", "1;2", "1|2", "|", "1/2",
		"1\n", "\n", "\n1", "1\n2", "1\t2", "\t1", "1\r", "1\x00", "\x00", "\xff", "1 \xff", "\x80\x81", "１", "١", "–1", "−1", "1\u00a02",
	} {
		areNoNumbers(t, s)
	}
	for _, n := range []int{0, 7, 1000000} {
		fifty := numbersText(slices.Repeat([]int{n}, 50))
		areNoNumbers(t, fifty+" 0")
		areNoNumbers(t, fifty+" ")
		areNoNumbers(t, " "+fifty)
		areNoNumbers(t, numbersText(slices.Repeat([]int{n}, 51)))
		areNoNumbers(t, numbersText(slices.Repeat([]int{n}, 5000)))
	}
	areNoNumbers(t, strings.Repeat("1", 1000000))
	areNoNumbers(t, strings.Repeat("0", 1000000))
	areNoNumbers(t, strings.Repeat(" ", 1000000))
	areNoNumbers(t, strings.Repeat("-", 1000000))
}

// TestNumbersAtTheLimits has all numbers near 0 and near the limits.
func TestNumbersAtTheLimits(t *testing.T) {
	for _, center := range []int{0, 1000000, -1000000} {
		for n := center - 300; n <= center+300; n++ {
			if -1000000 <= n && n <= 1000000 {
				areNumbers(t, show(n), []int{n})
			} else {
				areNoNumbers(t, show(n))
			}
		}
	}
}

// TestShortTexts has all texts of up to 6 of some bytes, as numbers and as rows.
func TestShortTexts(t *testing.T) {
	texts := []string{""}
	for length := 0; length <= 6; length++ {
		var longer []string
		for _, s := range texts {
			if list, ok := numbersFrom(s); ok {
				areNumbers(t, s, list)
			} else {
				areNoNumbers(t, s)
			}
			if rows, ok := rowsFrom(s); ok {
				areRows(t, s, rows)
			} else {
				areNoRows(t, s)
			}
			for _, c := range "01- +|" {
				longer = append(longer, s+string(c))
			}
		}
		texts = longer
	}
}

func TestRows(t *testing.T) {
	for _, c := range []struct {
		rows [][]int
		want string
	}{
		{nil, ""},
		{[][]int{}, ""},
		{[][]int{nil}, "-"},
		{[][]int{{}, {}}, "-|-"},
		{[][]int{{1, 2}, {}}, "1 2|-"},
		{[][]int{{}, {-1}}, "-|-1"},
		{[][]int{{0}, {1}, {0}}, "0|1|0"},
		{[][]int{{1, 2, 3}, {4}, {5, 6}}, "1 2 3|4|5 6"},
		{[][]int{{1000000}, {-1000000}}, "1000000|-1000000"},
		{[][]int{make([]int, 50), make([]int, 50)}, numbersText(make([]int, 50)) + "|" + numbersText(make([]int, 50))},
		{make([][]int, 1000), strings.Repeat("-|", 999) + "-"},
	} {
		if got := impl.FormatRows(c.rows); got != c.want {
			t.Errorf("FormatRows(%v) = %q", c.rows, got)
		}
		areRows(t, c.want, c.rows)
	}
	if got := impl.FormatRows([][]int{{math.MinInt64}, make([]int, 51)}); got != "-9223372036854775808|"+strings.Repeat("0 ", 50)+"0" {
		t.Errorf("FormatRows of great numbers and many = %q", got)
	}
}

func TestNoRows(t *testing.T) {
	for _, s := range []string{
		"|", "||", "1|", "|1", "1||2", "|1|", "-|", "|-", "1 |2", "1| 2", "1 | 2", " ", " 1", "1 ", "1|2 ", " |1",
		"x", "1|x", "x|1", "1|01", "1|+1", "1|-0", "1|1000001", "-1000001|1", "1;2", "1,2|3", "1/2", "1|2|", "--|1", "- |1",
		"1\n", "1|\n", "1|2\n", "\n|1", "1\n2", "1|\x00", "\xff|1", "1|18446744073709551617", "1¦2",
		"1|" + numbersText(make([]int, 51)), numbersText(make([]int, 51)) + "|1",
	} {
		areNoRows(t, s)
	}
	areNoRows(t, strings.Repeat("|", 100000))
	areNoRows(t, strings.Repeat("1|", 100000))
}

// TestExample is the script of the document.
func TestExample(t *testing.T) {
	runs(t,
		"ring 12;units;nilpotents;idempotents;groups;primitives;split;residues;height;kinds 6;inverse 7;parts 7;linear 4 8;ideals;ideal 8;sum 6;generator;prime;colon 4;radical;ideal 0;components;ideal 6;quotient;isomorphism 2x3;"+
			"ring 9;primitive;powers 2;poly 2 0 1;roots;value 1;lift 1;divide 5 1;derive;ring 2[1,1];field;mul 2 3;homs 2[1,1];table "+fourText+";span 1 2;dual 1 2;weights 1 2;local;foo",
		"12;1 5 7 11;0 6;0 1 4 9;3x4 2x2;4 9;1 012/120/201 000/012/021;3 0123/1230/2301/3012 0000/0321/0202/0123;3 2;2;dn;7;1 1;1 4 7 10;"+
			"0|0 6|0 4 8|0 3 6 9|0 2 4 6 8 10|0 1 2 3 4 5 6 7 8 9 10 11;0 4 8;0 2 4 6 8 10;2;true;0 1 2 3 4 5 6 7 8 9 10 11;0 1 2 3 4 5 6 7 8 9 10 11;0;0 3 6 9|0 4 8;0 6;6;0 4 2 3 1 5;"+
			"9;2;1 2 4 8 7 5;x2+2;4 5;3;4;x1+4 0;2*x1;4;true;1;2;4;0 0|1 2|2 0|3 2;0 0|0 2|2 1|2 3;1 1 2;true;what")
}

func TestFirstRing(t *testing.T) {
	runs(t, "ring;ideal;poly", fourText+";0;0")
	runs(t, "units;radical;derive;roots", "1 3;0 2;0;0 1 2 3")
	hasOutput(t, "", "")
	hasOutput(t, "\n", "")
	hasOutput(t, "\n\n\n", "")
	hasOutput(t, "\nunits\n\n\nunits", "1 3\n1 3\n")
}

// leaves checks the output of a line after the ideal of 4 and a polynomial over the integers by 12, and what it leaves of the ring, the ideal and the polynomial.
func leaves(t *testing.T, line, output string, r impl.Ring, ideal, poly string) {
	t.Helper()
	runs(t, "ring 12;ideal 8;poly 1 2;"+line+";ring;ideal;poly", "12;0 4 8;2*x1+1;"+output+";"+impl.FormatRing(r)+";"+ideal+";"+poly)
}

// changesNothing checks the output of a line that leaves all as it was.
func changesNothing(t *testing.T, line, output string) {
	t.Helper()
	leaves(t, line, output, remainders(12), "0 4 8", "2*x1+1")
}

// TestLinesThatTell has each line of the table without an effect.
func TestLinesThatTell(t *testing.T) {
	for line, output := range map[string]string{
		"ring":  impl.FormatRing(remainders(12)),
		"units": "1 5 7 11", "divisors": "0 2 3 4 6 8 9 10", "nilpotents": "0 6", "idempotents": "0 1 4 9",
		"characteristic": "12", "field": "false", "local": "false", "height": "2", "residues": "3 2",
		"primitives": "4 9", "split": "1 012/120/201 000/012/021;3 0123/1230/2301/3012 0000/0321/0202/0123",
		"groups": "3x4 2x2", "primitive": "no",
		"add 7 8": "3", "mul 7 8": "8", "times 5 8": "4", "times -5 8": "8", "times 0 8": "0", "times 1000000 1": "4", "times -1000000 1": "8", "times 12 11": "0",
		"power 7 2": "1", "power 2 7": "8", "power 3 0": "1", "power 0 0": "1", "power 2 1000000": "4",
		"linear 4 8": "1 4 7 10", "linear 4 1": "-", "linear 5 1": "7", "linear 0 0": "0 1 2 3 4 5 6 7 8 9 10 11",
		"neg 5": "7", "neg 0": "0", "inverse 5": "5", "inverse 1": "1", "kinds 6": "dn", "kinds 0": "dni", "kinds 1": "ui", "kinds 5": "u", "kinds 9": "di", "kinds 8": "d",
		"parts 7": "1 1", "parts 11": "2 1", "powers 2": "1 2 4 8", "powers 0": "1 0", "powers 1": "1",
		"ideal": "0 4 8", "prime": "false", "generator": "4",
		"ideals":  "0|0 6|0 4 8|0 3 6 9|0 2 4 6 8 10|0 1 2 3 4 5 6 7 8 9 10 11",
		"classes": "0 4 8|1 5 9|2 6 10|3 7 11", "components": "0 4 8",
		"poly": "2*x1+1", "roots": "-", "value 3": "7", "value 0": "1", "divide 5 1": "2 3", "divide 1": "2*x1+1 0", "divide 0 0 1": "0 2*x1+1",
		"homs 4": "1", "homs 5": "0", "homs 2x2": "1", "homs 1": "1", "homs 12": "1",
		"isomorphism 3x4": "0 5 10 3 4 9 2 7 8 1 6 11", "isomorphism 12": "0 1 2 3 4 5 6 7 8 9 10 11",
		"span 6 4": "0 0|0 4|0 8|6 0|6 4|6 8", "span 6": "0|6", "span 4|6": "0|2|4|6|8|10", "dual 6": "0|2|4|6|8|10", "dual 6|4": "0|6", "weights 6 4": "1 3 2", "weights 6": "1 1",
	} {
		changesNothing(t, line, output)
	}
}

// TestLinesThatChange has each line of the table with an effect.
func TestLinesThatChange(t *testing.T) {
	twelve := remainders(12)
	for _, c := range []struct {
		line, output string
		r            impl.Ring
		ideal, poly  string
	}{
		{"ring 9", "9", remainders(9), "0", "0"},
		{"ring 12", "12", remainders(12), "0", "0"},
		{"ring 2[1,1]", "4", fieldOfFour(), "0", "0"},
		{"ring 2x4", "8", pairs(2, 4), "0", "0"},
		{"table " + fourText, "4", remainders(4), "0", "0"},
		{"table 2 012/120/201 000/021/012", "3", swapped(remainders(3), 1, 2), "0", "0"},
		{"quotient", "4", remainders(4), "0", "0"},
		{"ideal 6", "0 6", twelve, "0 6", "2*x1+1"},
		{"ideal 10 10 4", "0 2 4 6 8 10", twelve, "0 2 4 6 8 10", "2*x1+1"},
		{"ideal -", "0", twelve, "0", "2*x1+1"},
		{"sum 6", "0 2 4 6 8 10", twelve, "0 2 4 6 8 10", "2*x1+1"},
		{"sum -", "0 4 8", twelve, "0 4 8", "2*x1+1"},
		{"sum 6 9", "0 1 2 3 4 5 6 7 8 9 10 11", twelve, "0 1 2 3 4 5 6 7 8 9 10 11", "2*x1+1"},
		{"product 3", "0", twelve, "0", "2*x1+1"},
		{"product 1", "0 4 8", twelve, "0 4 8", "2*x1+1"},
		{"meet 6", "0", twelve, "0", "2*x1+1"},
		{"meet 2", "0 4 8", twelve, "0 4 8", "2*x1+1"},
		{"colon 2", "0 2 4 6 8 10", twelve, "0 2 4 6 8 10", "2*x1+1"},
		{"colon 3", "0 4 8", twelve, "0 4 8", "2*x1+1"},
		{"radical", "0 2 4 6 8 10", twelve, "0 2 4 6 8 10", "2*x1+1"},
		{"poly 3 1", "x1+3", twelve, "0 4 8", "x1+3"},
		{"poly -", "0", twelve, "0 4 8", "0"},
		{"poly 0 0 0 0 0 0 0 11", "11*x7", twelve, "0 4 8", "11*x7"},
		{"addpoly 5 10", "6", twelve, "0 4 8", "6"},
		{"addpoly -", "2*x1+1", twelve, "0 4 8", "2*x1+1"},
		{"mulpoly 1 6", "8*x1+1", twelve, "0 4 8", "8*x1+1"},
		{"mulpoly 0 0 0 0 0 0 1", "2*x7+x6", twelve, "0 4 8", "2*x7+x6"},
		{"derive", "2", twelve, "0 4 8", "2"},
	} {
		leaves(t, c.line, c.output, c.r, c.ideal, c.poly)
	}
}

// TestLinesInOtherRings has lines whose outputs, over the integers by 12, are those of other lines too.
func TestLinesInOtherRings(t *testing.T) {
	runs(t, "ring 9;field;local;height;primitive;ring 7;field;local;height;primitive;ring 2x2;field;local;height;primitive", "9;false;true;2;2;7;true;true;1;3;4;false;false;1;3")
	runs(t, "ring 8;ideal 2;product 2;ideal 2;meet 2;ideal 4;colon 4;ideal 4;colon 2;prime;generator;classes", "8;0 2 4 6;0 4;0 2 4 6;0 2 4 6;0 4;0 1 2 3 4 5 6 7;0 4;0 2 4 6;true;2;0 2 4 6|1 3 5 7")
	runs(t, "ring 6;ideal 1;components;classes;ideal 0;components;classes;quotient", "6;0 1 2 3 4 5;-;0 1 2 3 4 5;0;0 3|0 2 4;0|1|2|3|4|5;6")
	runs(t, "ring 9;poly 2 0 1;value 2;lift 1;lift 2;lift 8;roots;divide 5 1;derive;derive;derive", "9;x2+2;6;4;5;5;4 5;x1+4 0;2*x1;2;0")
}

// refusedRests returns, for each word with a rest, rests that are not what the table shows, or with which the functions refuse, after the ideal of 4 and a polynomial over the integers by 12.
func refusedRests() map[string][]string {
	notNumbers := []string{"", " ", "x", "1 ", " 1", "1  1", "01", "+1", "-0", "1000001", "-1000001", "18446744073709551617", "1|1", "1,1", "\t", "\r", "\x00", "\xff", "--", numbersText(make([]int, 51))}
	notOne := append([]string{"-", "1 1", "1 1 1", "12", "-1", "1000000", "-1000000"}, notNumbers...)
	notTwo := append([]string{"-", "1", "1 1 1", "1 1 ", " 1 1", "1 01"}, notNumbers...)
	notElements := append([]string{"12 1", "1 12", "-1 1", "1 -1", "16 1", "1 1000000"}, notTwo...)
	notRing := []string{"", " ", "x", "0", "17", "-1", "01", "2x", "x2", "4x5", "2[", "2[]", "2[2]", "2[1,1", "2 ", " 2", "2 x 2", "-", "2\r", "3[1,1]x2", "2|2", fourText}
	notIdeal := append([]string{"12", "-1", "0 12", "1000000", "4 -4"}, notNumbers...)
	notPoly := append([]string{"0", "1 0", "12", "-1", "1 12", "0 0 0 0 0 0 0 0 1"}, notNumbers...)
	notRows := append([]string{"-", "1|-", "-|1", "|", "1|", "|1", "1|1 1", "1 1|1", "12", "-1", "1 12", "1 1 1", "1 1 1 1", "1 1 1 1 1", "1 |1", "1| 1", strings.Repeat("1|", 300) + "1"}, slices.DeleteFunc(slices.Clone(notNumbers), func(s string) bool { return s == "1|1" })...)
	rests := map[string][]string{
		"table": append([]string{"1", "2", "1 01/10 00/0", "1 01/10 00/01 ", "1 01/10 00/11", "0 01/10 00/01", "1 01 10 00 01", "-", "12"}, slices.DeleteFunc(slices.Clone(notRing), func(s string) bool { return s == fourText })...),
		"times": append([]string{"1 12", "1 -1", "-1 1000000", "12 12", "1000001 1", "-1000001 1"}, notTwo...),
		"power": append([]string{"12 1", "-1 1", "1 -1", "2 -1000000", "1000000 0"}, notTwo...),
		"value": notOne, "lift": append([]string{"0", "3", "5"}, notOne...), "inverse": append([]string{"0", "2", "9"}, notOne...),
		"divide":      append([]string{"-", "2", "1 2", "1 1 6"}, notPoly...),
		"poly":        notPoly,
		"addpoly":     notPoly,
		"mulpoly":     append([]string{"0 0 0 0 0 0 0 1"}, notPoly...),
		"isomorphism": append([]string{"2x6", "11", "1"}, notRing...),
	}
	for _, word := range []string{"neg", "kinds", "parts", "powers"} {
		rests[word] = notOne
	}
	for _, word := range []string{"add", "mul", "linear"} {
		rests[word] = notElements
	}
	for _, word := range []string{"ideal", "sum", "product", "meet", "colon"} {
		rests[word] = notIdeal
	}
	for _, word := range []string{"ring", "homs"} {
		rests[word] = notRing
	}
	for _, word := range []string{"span", "dual", "weights"} {
		rests[word] = notRows
	}
	return rests
}

// TestRefusedLines has rests that are not what the table shows, empty ones among them, and functions that refuse.
func TestRefusedLines(t *testing.T) {
	rests := refusedRests()
	for _, word := range restWords() {
		if !slices.Contains(rests[word], "") {
			t.Errorf("%s has no empty rest", word)
		}
		for _, rest := range rests[word] {
			changesNothing(t, word+" "+rest, "no")
		}
	}
	// These words have no rest that could be wrong, but functions that refuse.
	changesNothing(t, "primitive", "no")
	runs(t, "ring 2[0,0]x2[0,0];ideal 8 2;generator;table "+impl.FormatRing(flatRing(3))+";nilpotents;ideal 2 4;generator;ideal", "16;0 2 8 10;10;8;0 2 4 6;0 2 4 6;no;0 2 4 6")
}

// TestOtherLines has words of no line, those that need a rest without one, and those that need none with one, also an empty one.
func TestOtherLines(t *testing.T) {
	lines := []string{
		"foo", " ", "  ", "x", "Ring", "RING", "unit", "unitss", "ring\r", "units\r", "units\t", "\tunits", " units", " ring 4", "ring\t4", "ring4", "ring,4", "what", "no", "full", "long", "-", "0", "12", "1 2", "ideal\x00", "ideal\x004",
		"ideal|4", "\x00", "\xff", "\xff\xfe ring", "ｒing", "rin g 4", "rıng", "ri", "ideals 4", "polys", "addpoly\v1", "times-1 3",
	}
	needRest, needNone := restWords(), plainWords()
	for _, word := range needRest {
		if !slices.Contains(needNone, word) {
			lines = append(lines, word, word+"\r", strings.ToUpper(word))
		}
		lines = append(lines, " "+word+" 1", word+"x 1", "x"+word+" 1")
	}
	for _, word := range needNone {
		if !slices.Contains(needRest, word) {
			for _, rest := range []string{"", " ", "0", "1", "-", "4", "1 1", "x", "\r", word} {
				lines = append(lines, word+" "+rest)
			}
		}
		lines = append(lines, " "+word, word+"\r", word+"x")
	}
	for _, line := range lines {
		changesNothing(t, line, "what")
	}
}

// TestRingOfOneElement has each line in the ring of one element, in which 0 is One.
func TestRingOfOneElement(t *testing.T) {
	for line, output := range map[string]string{
		"ring": "0 0 0", "units": "0", "divisors": "-", "nilpotents": "0", "idempotents": "0", "characteristic": "1", "field": "false", "local": "false", "height": "1", "residues": "-",
		"primitives": "-", "split": "-", "groups": "1 1", "primitive": "0", "add 0 0": "0", "mul 0 0": "0", "times 5 0": "0", "times -5 0": "0", "power 0 3": "0", "power 0 0": "0", "linear 0 0": "0",
		"neg 0": "0", "inverse 0": "0", "kinds 0": "uni", "parts 0": "-", "powers 0": "0", "ideal": "0", "ideal 0": "0", "ideal -": "0", "sum 0": "0", "product -": "0", "meet 0 0": "0", "colon 0": "0", "radical": "0",
		"ideals": "0", "prime": "false", "generator": "0", "classes": "0", "components": "-", "quotient": "1", "poly": "0", "poly -": "0", "addpoly -": "0", "mulpoly -": "0", "derive": "0", "roots": "0", "value 0": "0", "lift 0": "0",
		"homs 1": "1", "homs 2": "0", "homs 1x1": "1", "isomorphism 1": "0", "isomorphism 1[0]": "0", "span 0": "0", "span 0 0|0 0": "0 0", "dual 0 0 0 0": "0 0 0 0", "weights 0 0": "1 0 0",
		"add 0 1": "no", "mul 1 0": "no", "times 1 1": "no", "power 1 1": "no", "power 0 -1": "no", "linear 0 1": "no", "neg 1": "no", "inverse 1": "no", "kinds 1": "no", "parts 1": "no", "powers 1": "no", "ideal 1": "no", "sum 1": "no",
		"poly 0": "no", "poly 1": "no", "addpoly 0": "no", "mulpoly 1": "no", "divide -": "no", "divide 0": "no", "value 1": "no", "lift 1": "no", "isomorphism 2": "no", "span 1": "no", "dual -": "no", "weights ": "no",
		"ring 1": "1", "table 0 0 0": "1",
	} {
		for _, first := range []string{"ring 1", "table 0 0 0", "ring 1x1", "ideal 1;quotient"} {
			output := output
			if strings.HasPrefix(first, "ideal") {
				output = "0 1 2 3;1;" + output
			} else {
				output = "1;" + output
			}
			runs(t, first+";"+line+";ring;ideal;poly", output+";0 0 0;0;0")
		}
	}
	runs(t, "homs 1;isomorphism 1;ring 2;homs 1x1", "1;no;2;1")
}

// TestElementsOfAnotherRing has numbers that are elements of the ring before or after, but not of the present one, and what is left of the ideal and the polynomial.
func TestElementsOfAnotherRing(t *testing.T) {
	runs(t, "ring 12;neg 11;ring 9;neg 11;neg 8;ring 12;neg 11", "12;1;9;no;1;12;1")
	runs(t, "ring 12;ideal 8;ring 4;ideal;sum 8;ideal 8;sum 2;ring 12;ideal", "12;0 4 8;4;0;no;no;0 2;12;0")
	runs(t, "ring 12;poly 11 7;ring 4;poly;value 1;addpoly 7;mulpoly 7;poly 3;ring 12;poly", "12;7*x1+11;4;0;0;no;no;3;12;0")
	runs(t, "ring 12;ideal 8;poly 11;ring 17;ring;ideal;poly;table 1;ideal;poly", "12;0 4 8;11;no;"+impl.FormatRing(remainders(12))+";0 4 8;11;no;0 4 8;11")
	runs(t, "ring 12;ideal 4;quotient;neg 11;neg 3;ideal;ideal 4;quotient;quotient;ideal 2;quotient;quotient", "12;0 4 8;4;no;1;0;no;4;4;0 2;2;2")
	runs(t, "ring 12;span 11;ring 11;span 11;dual 11 1;weights 1 11;span 10", "12;0|1|2|3|4|5|6|7|8|9|10|11;11;no;no;no;0|1|2|3|4|5|6|7|8|9|10")
	runs(t, "ring 12;linear 1 11;ring 11;linear 1 11;linear 11 1;linear 1 10;linear 0 10", "12;1;11;no;no;1;-")
	// With other numbers, One is another element.
	runs(t, "table 2 012/120/201 000/021/012;units;poly 0 2;poly 0 1;power 1 2;times 2 2;inverse 1;powers 1;isomorphism 3", "3;1 2;x1;1*x1;2;1;1;2 1;0 2 1")
}

// deskLines returns lines of all words with elements of a ring, and some that are refused.
func deskLines(r impl.Ring) []string {
	lines := plainWords()
	for a := -1; a <= r.Size; a++ {
		for _, word := range []string{"neg", "inverse", "kinds", "parts", "powers", "value", "lift", "ideal", "sum", "product", "meet", "colon", "span", "dual", "weights"} {
			lines = append(lines, word+" "+show(a))
		}
		for _, b := range []int{-1, 0, 1, 2, r.Size / 2, r.Size - 1, r.Size} {
			for _, word := range []string{"add", "mul", "times", "power", "linear", "ideal", "sum", "colon", "poly", "addpoly", "mulpoly", "divide", "span", "dual", "weights"} {
				lines = append(lines, word+" "+numbersText([]int{a, b}), word+" "+numbersText([]int{b, a}))
			}
		}
		lines = append(lines, "ideal "+show(a), "poly "+numbersText([]int{a, 1, a}), "roots", "lift 1", "derive", "span "+rowsText([][]int{{1, a}, {a, 1}}), "dual "+rowsText([][]int{{1, a}, {a, 0}}))
	}
	return lines
}

// otherRings returns texts of rings as of MakeRing.
func otherRings() []string {
	return strings.Fields("1 2 3 4 5 6 7 8 9 12 16 2x2 2x3 3x2 2x4 4x2 2x2x2 2x2x3 4x4 2x8 2x2x2x2 2[1,1] 2[0,0] 2[0,1] 2[1,1]x2 2[0,0]x4 2[1,1,0,0] 3[1,0] 4[0,0] 4[1,1]")
}

// TestScriptsDoWhatFunctionsDo checks P12 on all lines in rings of all sizes and with other numbers.
func TestScriptsDoWhatFunctionsDo(t *testing.T) {
	rings := append(someRings(), turned(remainders(9)), turned(remainders(12)), flatRing(3), flatRing(4), mixedRing(2))
	for _, text := range otherRings() {
		rings = append(rings, made(t, text))
	}
	for i, r := range rings {
		lines := deskLines(r)
		for _, text := range otherRings() {
			lines = append(lines, "homs "+text, "isomorphism "+text)
		}
		next := scattered(i)
		for part := range slices.Chunk(lines, 93) {
			chunk := slices.DeleteFunc(slices.Clone(part), func(line string) bool { return line == "quotient" })
			first := []string{"table " + impl.FormatRing(r), "ideal " + show(next(r.Size)), "poly " + numbersText([]int{next(r.Size), next(r.Size), r.One}), "ideal", "poly"}
			script := strings.Join(append(append(first, chunk...), "quotient", "ring"), "\n")
			isModelled(t, script)
		}
	}
}

// TestQuotientsInScripts has the quotients by all ideals, and the quotients of these.
func TestQuotientsInScripts(t *testing.T) {
	for _, r := range idealRings() {
		for _, ideal := range impl.AllIdeals(r) {
			script := "table " + impl.FormatRing(r) + "\nideal " + numbersText(ideal) + "\nprime\ngenerator\nclasses\ncomponents\npoly 1\nquotient\nring\nideal\npoly\nradical\nquotient\nring\nideals\nfield\nsplit"
			isModelled(t, script)
		}
	}
}

// anyLine returns one of many lines, chosen by a function that returns numbers below a bound.
func anyLine(next func(n int) int) string {
	words, rings := append(plainWords(), restWords()...), otherRings()
	number := func() string { return show(next(19) - 1) }
	line := words[next(len(words))]
	switch next(12) {
	case 0:
		return ""
	case 1, 2:
		return line
	case 3, 4:
		return line + " " + rings[next(len(rings))]
	case 5, 6:
		return line + " " + number()
	case 7, 8:
		return line + " " + number() + " " + number()
	case 9:
		return line + " " + number() + " 0 " + number()
	case 10:
		return line + " " + number() + "|" + number()
	}
	return line + " "
}

// TestScatteredScripts has long scripts of lines that come in any order, so that each begins with what the ones before have left.
func TestScatteredScripts(t *testing.T) {
	for i := range 1500 {
		next := scattered(i)
		var lines []string
		for range next(120) {
			lines = append(lines, anyLine(next))
		}
		isModelled(t, strings.Join(lines, "\n"))
	}
}

// TestArbitraryBytes has scripts of bytes that come in any order.
func TestArbitraryBytes(t *testing.T) {
	words := append(plainWords(), restWords()...)
	for i := range 2000 {
		next := scattered(i)
		var script []byte
		for range next(200) {
			switch next(6) {
			case 0:
				script = append(script, words[next(len(words))]...)
			case 1:
				script = append(script, "\n 0149-|x[],/+"[next(14)])
			case 2:
				script = append(script, '\n')
			case 3:
				script = append(script, ' ')
			default:
				script = append(script, byte(next(256)))
			}
		}
		isModelled(t, string(script))
		areNoNumbers(t, string(script)+"\xff")
		areNoRows(t, string(script)+"\xff")
	}
}

// TestMaxScript has scripts of exactly as many bytes as there may be, and one more.
func TestMaxScript(t *testing.T) {
	if impl.MaxScript != 20000 || impl.MaxLines != 100 || impl.MaxOutput != 40000 {
		t.Errorf("the limits are %d, %d and %d", impl.MaxScript, impl.MaxLines, impl.MaxOutput)
	}
	for _, c := range []struct{ script, want string }{
		{strings.Repeat("\n", 20000), ""},
		{strings.Repeat("x", 20000), "what\n"},
		{strings.Repeat(" ", 20000), "what\n"},
		{"ring" + strings.Repeat("\n", 19996), fourText + "\n"},
		{strings.Repeat("\n", 19995) + "units", "full\n"},
		{"ring " + strings.Repeat("1x", 9997) + "1", "1\n"},
		{"ring " + strings.Repeat("1x", 9996) + "1xx", "no\n"},
		{"units\nneg 1\n" + strings.Repeat("y", 19988), "1 3\n3\nwhat\n"},
		{"neg " + strings.Repeat("1", 19996), "no\n"},
		{"span " + strings.Repeat("1|", 9997) + "1", "no\n"},
		{"units " + strings.Repeat("\xff", 19994), "what\n"},
	} {
		if len(c.script) != 20000 {
			t.Errorf("%.20q has %d bytes", c.script, len(c.script))
		}
		hasOutput(t, c.script, c.want)
		hasOutput(t, c.script+"\n", "long\n")
		hasOutput(t, "\n"+c.script, "long\n")
		hasOutput(t, c.script+"x", "long\n")
		hasOutput(t, c.script[:19999], newModel().run(c.script[:19999]))
	}
	hasOutput(t, strings.Repeat("units\n", 1000000), "long\n")
}

// TestMaxLines has as many lines as there may be, and more, with empty ones at all places.
func TestMaxLines(t *testing.T) {
	what := func(n int) string { return strings.Repeat("what\n", n) }
	empty := func(n int) string { return strings.Repeat("\n", n) }
	for _, c := range []struct{ script, want string }{
		{strings.Repeat("x\n", 100), what(100)},
		{strings.Repeat("x\n", 99) + "x", what(100)},
		{strings.Repeat("x\n", 100) + "x", what(100) + "full\n"},
		{strings.Repeat("x\n", 101), what(100) + "full\n"},
		{strings.Repeat("x\n", 150), what(100) + "full\n"},
		{strings.Repeat("x\n", 100) + "\n", what(100)},
		{strings.Repeat("x\n", 100) + empty(500), what(100)},
		{strings.Repeat("x\n", 100) + empty(500) + "x", what(100) + "full\n"},
		{strings.Repeat("x\n", 100) + empty(7) + "units\nunits", what(100) + "full\n"},
		{empty(99) + "units", "1 3\n"},
		{empty(99) + "units\n" + empty(50), "1 3\n"},
		{empty(99) + "units\nunits", "1 3\nfull\n"},
		{empty(100) + "units", "full\n"},
		{empty(100) + "units\nunits\n", "full\n"},
		{empty(5000), ""},
		{empty(98) + "x\nx", what(2)},
		{empty(98) + "x\n\nx", what(1) + "full\n"},
		{"x\n" + empty(98) + "x", what(2)},
		{"x\n" + empty(99) + "x", what(1) + "full\n"},
		{strings.Repeat("x\n\n", 50), what(50)},
		{strings.Repeat("x\n\n", 50) + "x", what(50) + "full\n"},
		{strings.Repeat("\nx\n", 50) + "\n", what(50)},
		{empty(100) + " ", "full\n"},
	} {
		hasOutput(t, c.script, c.want)
	}
	hasOutput(t, "ring 9\n"+strings.Repeat("ideal 3\n", 98)+"quotient\nring 2\n", "9\n"+strings.Repeat("0 3 6\n", 98)+"3\nfull\n")
}

// withOutput returns lines over the integers by 4 whose output has so many bytes, which are more than 1.
func withOutput(bytes int) string {
	lines := []string{"span 1 0 0 0|0 1 0 0|0 0 1 0|0 0 0 1", "span 1 0 0 0|0 1 0 0|0 0 1 0", "span 1 0 0 0|0 1 0 0", "span 1 0 0 0", "span 0 0 0 0", "x", "neg 4", "neg 1"}
	script := ""
	for bytes > 0 {
		for _, line := range lines {
			// One byte alone can't be had, so that it is not to be left.
			if left := bytes - len(newModel().run(line)); left >= 0 && left != 1 {
				// The longest output comes last, so that just that one passes the limit.
				script = line + "\n" + script
				bytes = left
				break
			}
		}
	}
	return script
}

// TestMaxOutput has outputs of exactly as many bytes as there may be before a line, and of one more and one less.
func TestMaxOutput(t *testing.T) {
	for bytes := 39980; bytes <= 40050; bytes++ {
		script := withOutput(bytes)
		output := newModel().run(script)
		if len(output) != bytes || strings.Count(script, "\n") > 90 {
			t.Errorf("%d lines have an output of %d bytes, not %d", strings.Count(script, "\n"), len(output), bytes)
		}
		hasOutput(t, script, output)
		hasOutput(t, script+"\n\n\n", output)
		last := "1 3\n"
		if bytes > 40000 {
			last = "full\n"
		}
		hasOutput(t, script+"units", output+last)
		hasOutput(t, script+"\n\nunits\n", output+last)
	}
	exact := withOutput(40000)
	output := newModel().run(exact)
	hasOutput(t, exact+"neg 1\nunits\nunits", output+"3\nfull\n")
	hasOutput(t, exact+"ring 12\n\nunits", output+"12\nfull\n")
	hasOutput(t, exact+"\n"+withOutput(2048), output+newModel().run(withOutput(2048)))
	// A line may pass both limits, and there is one last line all the same.
	lines := strings.Count(exact, "\n")
	hasOutput(t, exact+"x\n"+strings.Repeat("\n", 99-lines)+"units\nunits", output+"what\nfull\n")
}

// TestLimitsInLines has the limits of the other chapters in lines.
func TestLimitsInLines(t *testing.T) {
	numbers := func(count, n int) string { return numbersText(slices.Repeat([]int{n}, count)) }
	rows := func(count int) string { return strings.Repeat("2|", count-1) + "2" }
	runs(t, "ideal "+numbers(50, 2)+";ideal "+numbers(51, 2)+";sum "+numbers(50, 0)+";sum "+numbers(51, 0), "0 2;no;0 2;no")
	runs(t, "poly 0 0 0 0 0 0 0 1;poly 0 0 0 0 0 0 0 0 1;mulpoly 0 1;mulpoly 3;poly "+numbers(50, 1)+";poly "+numbers(51, 1), "x7;no;no;3*x7;no;no")
	runs(t, "span "+rows(300)+";span "+rows(301)+";dual "+rows(300)+";dual "+rows(301)+";weights "+rows(300)+";weights "+rows(301), "0|2;no;0|2;no;1 1;no")
	runs(t, "ring 16;ring 17;ring 4x4;ring 4x5;ring 2[1,1,0,0];ring 2[1,1,0,0,0]", "16;no;16;no;16;no")
	runs(t, "ring 5;weights 1 1 1;weights 1 1 1 1;ring 6;weights 1 1 1;ring 7;weights 1 1 1;ring 16;weights 1 1;weights 1 1 1", "5;1 0 0 4;no;6;1 0 0 5;7;no;16;1 0 15;no")
	runs(t, "ring 2x2x2x2;homs 2x2x2x2", "16;256")
	runs(t, "ring 7;times 1000000 1;times -1000000 1;times 1000001 1;times -1000001 1;power 3 1000000;power 3 1000001", "7;1;6;no;no;4;no")
}

// TestScriptsAgain runs scripts many times and at once, since nothing of one may show in another one.
func TestScriptsAgain(t *testing.T) {
	script := "ring 12\nideal 8\npoly 1 2\nideals\nspan 4 6\nhoms 2x2\nroots\nquotient\nideal\npoly\nfoo"
	want := newModel().run(script)
	var running sync.WaitGroup
	for range 8 {
		running.Go(func() {
			for range 50 {
				hasOutput(t, script, want)
				hasOutput(t, "ring\nideal\npoly", fourText+"\n0\n0\n")
				hasOutput(t, strings.Repeat("\n", 100)+"x", "full\n")
				areNumbers(t, "1 0 -3", []int{1, 0, -3})
				areNoNumbers(t, "01")
				areRows(t, "1 2|-", [][]int{{1, 2}, {}})
			}
		})
	}
	running.Wait()
}

// TestDeskMemory checks that arguments, and what lies behind their ends, stay as they are, and that results have memory of their own.
func TestDeskMemory(t *testing.T) {
	list, listKept := guarded([]int{3, 1, 2})
	row, rowKept := guarded([]int{5, 4})
	rows := append(make([][]int, 0, 4), list, row, nil)
	if impl.FormatNumbers(list) != "3 1 2" || impl.FormatRows(rows) != "3 1 2|5 4|-" || impl.FormatRows(rows[:2]) != "3 1 2|5 4" || !listKept() || !rowKept() {
		t.Error("an argument has changed")
	}
	if len(rows) != 3 || rows[:4][3] != nil {
		t.Error("memory behind the end of the rows has changed")
	}
	first, _ := impl.ParseNumbers("3 1 2")
	overwrite(first)
	areNumbers(t, "3 1 2", []int{3, 1, 2})
	parsed, _ := impl.ParseRows("3 1 2|5 4|7|8")
	for i := range parsed {
		others := slices.Concat(parsed[i+1:]...)
		overwrite(parsed[i])
		if !slices.Equal(slices.Concat(parsed[i+1:]...), others) {
			t.Errorf("row %d shares memory with another one", i)
		}
	}
	areRows(t, "3 1 2|5 4|7|8", [][]int{{3, 1, 2}, {5, 4}, {7}, {8}})
}
