package tests

import (
	"fmt"
	"regexp"
	"slices"
	"strconv"
	"strings"
	"sync"
	"testing"

	"loop.example/tworows/impl"
)

// numbersPattern is a rest of numbers.
var numbersPattern = regexp.MustCompile(`^-?[0-9]{1,5}( -?[0-9]{1,5})*$`)

// wordsAlone are the words of lines without a rest.
var wordsAlone = []string{"turned", "back", "mirror", "form", "show", "det", "trace", "letters", "turns", "order", "necklace", "double"}

// restedLine is a word with a rest for which it does not fail, the matrix being the unit.
type restedLine struct {
	word, rest string
}

// restedLines has one line for each word with a rest of so many numbers, as
// list has not.
var restedLines = []restedLine{
	{"mat", "1 2 3 4"}, {"times", "1 2 3 4"}, {"power", "3"}, {"rests", "5"}, {"move", "3 2"}, {"to", "2 3"}, {"necklaces", "4"},
	{"period", "5"}, {"orbits", "5"}, {"has", "2 3"}, {"gcd", "12 18"}, {"forms", "23"}, {"short", "2 1 3"},
}

// wordsRested returns the words of lines with a rest.
func wordsRested() []string {
	words := []string{"word", "list"}
	for _, line := range restedLines {
		words = append(words, line.word)
	}
	return words
}

func wantOutput(t *testing.T, script, want string) {
	t.Helper()
	if got := impl.Execute(script); got != want {
		t.Fatalf("Execute of %q returned %q, want %q", script, got, want)
	}
}

// scriptOf is the script of complete lines.
func scriptOf(lines ...string) string {
	var b strings.Builder
	for _, line := range lines {
		b.WriteString(line + "\n")
	}
	return b.String()
}

// numbersText is numbers with spaces between, and "." for none.
func numbersText(numbers ...int) string {
	if len(numbers) == 0 {
		return "."
	}
	return strings.Trim(fmt.Sprint(numbers), "[]")
}

// matText is a matrix as it is printed.
func matText(m impl.Mat) string {
	return numbersText(m.A, m.B, m.C, m.D)
}

// wantAnswer checks the output of a line that meets the matrix m, and the
// matrix behind it.
func wantAnswer(t *testing.T, m impl.Mat, line, want string, after impl.Mat) {
	t.Helper()
	script := scriptOf("mat "+matText(m), line, "show")
	wantOutput(t, script, scriptOf("ok", want, matText(after), "trace "+strconv.Itoa(after.A+after.D)))
}

// wantMade checks that a line makes the matrix another one.
func wantMade(t *testing.T, m impl.Mat, line string, after impl.Mat) {
	t.Helper()
	wantAnswer(t, m, line, "ok", after)
}

// wantTold checks that a line has an output and changes nothing.
func wantTold(t *testing.T, m impl.Mat, line, want string) {
	t.Helper()
	wantAnswer(t, m, line, want, m)
}

// fewMats returns matrices with at most five digits: even ones, whole ones and others.
func fewMats() []impl.Mat {
	return []impl.Mat{unit, {}, mat(1, 2, 3, 4), mat(2, 1, 1, 1), turnMat, mat(-7, 99999, -99999, 12), mat(1, 41, 0, 1), mat(0, 1, 1, 0), mat(6, 4, 2, 8)}
}

// shortMats returns samples whose numbers have at most five digits.
func shortMats() []impl.Mat {
	list := append(sampleMats(),
		mat(99999, 99999, 99999, 99999), mat(-99999, 99999, 99999, 99999), mat(-99999, -99999, -99999, -99999), mat(99999, 0, 0, -99999), mat(10000, -10000, 99999, 1),
		mat(9999, 1, 0, 9999), mat(99999, 99998, 1, 1), mat(1, 0, -99999, 1))
	return slices.DeleteFunc(list, func(m impl.Mat) bool {
		return max(signless(m.A), signless(m.B), signless(m.C), signless(m.D)) > 99999
	})
}

// plainOutput is the output of a script, line by line.
func plainOutput(script string) string {
	if len(script) > 600 {
		return "too long\n"
	}
	m := unit
	lines := strings.Split(script, "\n")
	output := ""
	for _, line := range lines[:len(lines)-1] {
		output += plainAnswer(&m, line) + "\n"
	}
	return output + fmt.Sprintf("trace %d\n", m.A+m.D)
}

// plainAnswer is the output of a line.
func plainAnswer(m *impl.Mat, line string) string {
	space := strings.IndexByte(line, ' ')
	if space < 0 {
		return plainAlone(m, line)
	}
	word, rest := line[:space], line[space+1:]
	if word == "word" {
		made, ok := impl.WordMat(rest)
		return plainMade(m, made, ok)
	}
	count, known := map[string]int{"mat": 4, "list": -1, "times": 4, "power": 1, "rests": 1, "move": 2, "to": 2, "necklaces": 1,
		"period": 1, "orbits": 1, "has": 2, "gcd": 2, "forms": 1, "short": 3}[word]
	if !known {
		return "what"
	}
	numbers, ok := plainNumbers(rest)
	if !ok || count > 0 && len(numbers) != count {
		return "no"
	}
	if made, ok, makes := plainMaking(*m, word, numbers); makes {
		return plainMade(m, made, ok)
	}
	return plainRested(*m, word, numbers)
}

// plainNumbers returns the numbers of a rest.
func plainNumbers(rest string) ([]int, bool) {
	if !numbersPattern.MatchString(rest) {
		return nil, false
	}
	var numbers []int
	for _, text := range strings.Fields(rest) {
		n, _ := strconv.Atoi(text)
		numbers = append(numbers, n)
	}
	return numbers, true
}

func plainMade(m *impl.Mat, made impl.Mat, ok bool) string {
	if !ok {
		return "no"
	}
	*m = made
	return "ok"
}

// orNo is the output, or "no" of what fails.
func orNo(ok bool, output string) string {
	if !ok {
		return "no"
	}
	return output
}

// wordText is a word as it is printed.
func wordText(w string) string {
	if w == "" {
		return "."
	}
	return w
}

// plainAlone is the output of a line without a space.
func plainAlone(m *impl.Mat, line string) string {
	making := map[string]func(impl.Mat) (impl.Mat, bool){"turned": impl.MatTurned, "back": impl.MatBack, "mirror": impl.MatMirror, "form": impl.LatticeForm}
	telling := map[string]func(impl.Mat) (int, bool){"det": impl.MatDet, "trace": impl.MatTrace, "order": impl.TurnOrder}
	spelling := map[string]func(impl.Mat) (string, bool){"letters": impl.WordOf, "necklace": impl.NecklaceMat}
	if f := making[line]; f != nil {
		made, ok := f(*m)
		return plainMade(m, made, ok)
	}
	if f := telling[line]; f != nil {
		n, ok := f(*m)
		return orNo(ok, numbersText(n))
	}
	if f := spelling[line]; f != nil {
		w, ok := f(*m)
		return orNo(ok, wordText(w))
	}
	switch line {
	case "show":
		return matText(*m)
	case "turns":
		q, sign, ok := impl.TurnList(*m)
		return orNo(ok, numbersText(q...)+" "+numbersText(sign))
	case "double":
		a, b, ok := impl.LatticeDouble(*m)
		return orNo(ok, numbersText(a, b))
	}
	return "what"
}

// plainMaking returns what a line with numbers makes the matrix, and whether it
// is a line that makes it something.
func plainMaking(m impl.Mat, word string, n []int) (impl.Mat, bool, bool) {
	var made impl.Mat
	var ok bool
	switch word {
	case "mat":
		made, ok = mat(n[0], n[1], n[2], n[3]), true
	case "list":
		made, ok = impl.TurnOf(n)
	case "times":
		made, ok = impl.MatTimes(m, mat(n[0], n[1], n[2], n[3]))
	case "power":
		made, ok = impl.MatPower(m, n[0])
	case "rests":
		made, ok = impl.RestOf(m, n[0])
	default:
		return made, ok, false
	}
	return made, ok, true
}

// plainRested is the output of a line with numbers that changes nothing.
func plainRested(m impl.Mat, word string, n []int) string {
	switch word {
	case "move":
		x, y, ok := impl.MatMove(m, n[0], n[1])
		return orNo(ok, numbersText(x, y))
	case "to":
		w, ok := impl.WordTo(n[0], n[1])
		return orNo(ok, wordText(w))
	case "necklaces":
		list, ok := impl.NecklaceAll(n[0])
		return orNo(ok, strings.Join(list, " "))
	case "period":
		k, ok := impl.RestOrder(m, n[0])
		return orNo(ok, numbersText(k))
	case "orbits":
		list, ok := impl.RestOrbits(m, n[0])
		return orNo(ok, numbersText(list...))
	case "has":
		if impl.LatticeHas(m, n[0], n[1]) {
			return "yes"
		}
		return "not"
	case "gcd":
		g, u, v, ok := impl.ShortGcd(pair(n[0], n[1]))
		return orNo(ok, numbersText(g, u, v))
	case "forms":
		list, ok := impl.FormAll(n[0])
		return orNo(ok, numbersText(len(list)))
	}
	f, ok := impl.FormShort(form(n[0], n[1], n[2]))
	return orNo(ok, numbersText(f.A, f.B, f.C))
}

// linePool returns the lines of which scripts without a rule are made.
func linePool() []string {
	lines := []string{
		"mat 2 1 1 1", "mat 1 2 3 4", "mat 0 -1 1 1", "mat 0 1 1 0", "mat 6 4 2 8", "mat -3 7 00012 -9", "mat 99999 -99999 1 0", "mat 1000 0 0 1000", "mat 5 2 2 1",
		"word ", "word L", "word RRL", "word LRLRLLRR", "word RRRRRRRRRRRRRRRRRRRRRRRRRRRRRRRRRRRRRRRRR", "word x", "list 2 3", "list 0", "list 1000 -1000", "list -2 4 -3 5", "list 1001",
		"times 1 1 0 1", "times 0 -1 1 0", "times 2 0 0 3", "times 1000 0 0 1000", "times -1 0 0 -1", "times 1 2 3", "power 2", "power -1", "power 0", "power -3", "power 51", "power 7",
		"rests 5", "rests 12", "rests 2", "rests 13", "move 3 -2", "move 99999 99999", "to 2 3", "to 1 1", "to 6 4", "necklaces 4", "necklaces 12", "necklaces 31",
		"period 5", "period 2", "period 12", "period 1", "orbits 5", "orbits 2", "orbits 11", "orbits 13", "has 2 2", "has 0 0", "has -3 1", "has 1", "gcd 12 -18", "gcd 0 0", "gcd 10001 1",
		"forms 23", "forms 1", "forms 400", "forms 401", "short 2 5 4", "short 9999 -9999 10000", "short 1 2 1", "short 1 0 x",
		"", " ", "zzz", "show ", "show 1", "mat", "word", "list", "list ", "mat  1 2 3 4", "mat 1 2 3 4 ", "mat 1 2 3 4 5", "mat 1 2 3 123456", "mat 1 2 3 --4", "mat 1 2 3 +4", "power", "power ", "back x", "Mat 1 2 3 4", "trace 2", "ok",
	}
	return slices.Concat(lines, wordsAlone, wordsAlone, wordsAlone)
}

// rulelessScript is a script of complete lines with at most n bytes, another
// one for another seed.
func rulelessScript(pool []string, seed, n int) string {
	script := ""
	for _, x := range rulelessList(seed, n, 30000) {
		line := pool[signless(x)%len(pool)] + "\n"
		if len(script)+len(line) > n {
			return script
		}
		script += line
	}
	return script
}

// sampleScripts returns scripts of complete lines on which the promises are
// tried, of at most n bytes, also of just as many.
func sampleScripts(n int) []string {
	list := []string{"", "\n", " \n", "show\n", "mat 2 1 1 1\n", "mat 1 2 3 4\npower -1\n", "word LLR\nback\n", strings.Repeat("\n", n), strings.Repeat("x", n-1) + "\n",
		"mat 9 9 9 9\n" + strings.Repeat("\n", n-12), strings.Repeat("mat 5 3 3 2\n", n/12), "mat 1000 0 0 1000\ntimes 1000 0 0 1000\n"}
	pool := linePool()
	for seed := range 200 {
		list = append(list, rulelessScript(pool, seed, n), rulelessScript(pool, seed, 80))
	}
	return list
}

// parts returns the output of the lines, and the last line behind it.
func parts(t *testing.T, script string) (string, string) {
	t.Helper()
	got := impl.Execute(script)
	at := strings.LastIndex(strings.TrimSuffix(got, "\n"), "\n") + 1
	if !strings.HasSuffix(got, "\n") || !strings.HasPrefix(got[at:], "trace ") {
		t.Fatalf("Execute of %q returned %q, which does not end with the trace", script, got)
	}
	return got[:at], got[at:]
}

// No script has more than MaxScript bytes, whatever is in it.
func TestMaxScript(t *testing.T) {
	if impl.MaxScript != 600 {
		t.Fatalf("MaxScript is %d", impl.MaxScript)
	}
	wantOutput(t, strings.Repeat("\n", 600), strings.Repeat("what\n", 600)+"trace 2\n")
	wantOutput(t, strings.Repeat("x", 600), "trace 2\n")
	wantOutput(t, strings.Repeat("x", 599)+"\n", "what\ntrace 2\n")
	wantOutput(t, strings.Repeat("mat 7 0 0 9\n", 50), strings.Repeat("ok\n", 50)+"trace 16\n")
	wantOutput(t, strings.Repeat("é", 300), "trace 2\n")
	for _, long := range []string{
		strings.Repeat("\n", 601), strings.Repeat("x", 601), strings.Repeat("x", 600) + "\n", strings.Repeat("mat 7 0 0 9\n", 50) + "x", strings.Repeat("é", 301), strings.Repeat("€", 201),
		"show\n" + strings.Repeat("x", 596), strings.Repeat("show\n", 100000), strings.Repeat("\x00", 601), "mat 7 0 0 9\n" + strings.Repeat(" ", 589),
	} {
		wantOutput(t, long, "too long\n")
	}
}

// A last line is complete only with a newline.
func TestLastLineWithoutNewline(t *testing.T) {
	wantOutput(t, "show", "trace 2\n")
	wantOutput(t, "mat 7 0 0 9", "trace 2\n")
	wantOutput(t, "mat 7 0 0 9\nmat 1 2 3 4", "ok\ntrace 16\n")
	wantOutput(t, "show\nshow", "1 0 0 1\ntrace 2\n")
	wantOutput(t, "zzz", "trace 2\n")
	wantOutput(t, "mat x", "trace 2\n")
	wantOutput(t, "show\n ", "1 0 0 1\ntrace 2\n")
	wantOutput(t, "show\r\n", "what\ntrace 2\n")
	wantOutput(t, "show\rshow\n", "what\ntrace 2\n")
	wantOutput(t, "\n\n", "what\nwhat\ntrace 2\n")
}

func TestLinesThatMake(t *testing.T) {
	for _, m := range fewMats() {
		wantMade(t, m, "mat 1 2 3 4", mat(1, 2, 3, 4))
		wantMade(t, m, "mat 0 0 0 0", impl.Mat{})
		wantMade(t, m, "mat -99999 99999 0 -1", mat(-99999, 99999, 0, -1))
		wantMade(t, m, "word LR", mat(1, 1, 1, 2))
		wantMade(t, m, "word RL", mat(2, 1, 1, 1))
		wantMade(t, m, "word R", mat(1, 1, 0, 1))
		wantMade(t, m, "word ", unit)
		wantMade(t, m, "word "+strings.Repeat("L", 40), mat(1, 0, 40, 1))
		wantMade(t, m, "list 2 3", mat(2, 5, 1, 3))
		wantMade(t, m, "list 7", mat(1, 7, 0, 1))
		wantMade(t, m, "list -1000", mat(1, -1000, 0, 1))
		wantMade(t, m, "list 0 0", turnMat)
		wantMade(t, m, "list 0 0 0", mat(-1, 0, 0, -1))
		wantMade(t, m, "list"+strings.Repeat(" 0", 20), mat(0, 1, -1, 0))
		wantMade(t, m, "power 0", unit)
		wantMade(t, m, "times 1 0 0 1", m)
		wantMade(t, m, "power 1", m)
		wantMade(t, m, "turned", mat(m.A, m.C, m.B, m.D))
		wantMade(t, m, "mirror", mat(m.D, -m.B, -m.C, m.A))
	}
	wantMade(t, mat(2, 1, 1, 1), "times 1 1 0 1", mat(2, 3, 1, 2))
	wantMade(t, mat(1, 1, 0, 1), "times 2 1 1 1", mat(3, 2, 1, 1))
	wantMade(t, mat(1, 2, 3, 4), "times -5 6 7 -8", mat(9, -10, 13, -14))
	wantMade(t, mat(1000, 0, 0, 999), "times 1000 0 0 1000", mat(1000000, 0, 0, 999000))
	wantMade(t, mat(2, 1, 1, 1), "power -3", mat(5, -8, -8, 13))
	wantMade(t, mat(1, 1, 0, 1), "power 50", mat(1, 50, 0, 1))
	wantMade(t, mat(1, 1, 0, 1), "power -50", mat(1, -50, 0, 1))
	wantMade(t, mat(2, 1, 1, 1), "back", mat(1, -1, -1, 2))
	wantMade(t, mat(1, 2, 1, 1), "back", mat(-1, 2, 1, -1))
	wantMade(t, mat(4, 1, 6, 3), "form", mat(2, 2, 0, 3))
	wantMade(t, mat(1000, 0, 0, -1000), "form", mat(1000, 0, 0, 1000))
	wantMade(t, mat(2, 5, 1, 3), "rests 4", mat(2, 1, 1, 3))
	wantMade(t, mat(-1, -2, -3, 24), "rests 12", mat(11, 10, 9, 0))
	wantMade(t, mat(-1, -2, -3, 24), "rests 2", mat(1, 0, 1, 0))
}

func TestLinesThatTell(t *testing.T) {
	for _, m := range fewMats() {
		wantTold(t, m, "show", matText(m))
		wantTold(t, m, "det", strconv.Itoa(rawDet(m)))
		wantTold(t, m, "trace", strconv.Itoa(m.A+m.D))
		wantTold(t, m, "move 1 0", numbersText(m.A, m.C))
		wantTold(t, m, "move 0 -1", numbersText(-m.B, -m.D))
		wantTold(t, m, "to 2 3", "LR")
		wantTold(t, m, "to 3 2", "RL")
		wantTold(t, m, "to 41 1", strings.Repeat("R", 40))
		wantTold(t, m, "necklaces 3", "LR")
		wantTold(t, m, "necklaces 4", "LLR LRR")
		wantTold(t, m, "necklaces 6", "LLRR LLLLR LRRRR")
		wantTold(t, m, "gcd 12 -18", "6 -1 -1")
		wantTold(t, m, "gcd 0 0", "0 1 0")
		wantTold(t, m, "gcd -10000 10000", "10000 0 1")
		wantTold(t, m, "forms 23", "3")
		wantTold(t, m, "forms 3", "1")
		wantTold(t, m, "short 2 5 4", "1 1 2")
		wantTold(t, m, "short 2 -1 3", "2 -1 3")
	}
	wantTold(t, mat(1, 2, 3, 4), "move 3 -2", "-1 1")
	wantTold(t, mat(99999, 0, 0, 1), "move 10 99999", "999990 99999")
	wantTold(t, mat(1, 1, 1, 2), "letters", "LR")
	wantTold(t, mat(1, 0, 40, 1), "letters", strings.Repeat("L", 40))
	wantTold(t, mat(2, 5, 1, 3), "turns", "2 3 1")
	wantTold(t, mat(-1, -7, 0, -1), "turns", "7 -1")
	wantTold(t, unit, "turns", "0 1")
	wantTold(t, turnMat, "turns", "0 0 1")
	wantTold(t, unit, "order", "1")
	wantTold(t, mat(-1, 0, 0, -1), "order", "2")
	wantTold(t, mat(-1, -1, 1, 0), "order", "3")
	wantTold(t, turnMat, "order", "4")
	wantTold(t, mat(0, -1, 1, 1), "order", "6")
	wantTold(t, mat(2, 5, 1, 3), "necklace", "LRRR")
	wantTold(t, mat(1, 39, 1, 40), "necklace", "L"+strings.Repeat("R", 39))
	wantTold(t, mat(2, 1, 1, 3), "period 4", "6")
	wantTold(t, unit, "period 12", "1")
	wantTold(t, mat(2, 1, 1, 3), "orbits 4", "3 3")
	wantTold(t, unit, "orbits 2", "1 1 1")
	wantTold(t, mat(2, 2, 0, 3), "double", "1 6")
	wantTold(t, mat(6, 4, 2, 8), "double", "2 20")
	wantTold(t, impl.Mat{}, "double", "0 0")
	wantTold(t, mat(1, 2, 2, 4), "double", "1 0")
	wantTold(t, mat(2, 2, 0, 3), "has 4 1", "yes")
	wantTold(t, mat(2, 2, 0, 3), "has -2 -2", "yes")
	wantTold(t, mat(2, 2, 0, 3), "has 1 0", "not")
	wantTold(t, mat(2, 2, 0, 3), "has 0 0", "yes")
	wantTold(t, unit, "has 99999 -99999", "yes")
	// No lattice, but LatticeHas only reports.
	wantTold(t, mat(1, 2, 2, 4), "has 1 2", "not")
	wantTold(t, impl.Mat{}, "has 0 0", "not")
	wantTold(t, mat(99999, 0, 0, 99999), "has 0 0", "not")
}

// An empty list or word is printed as a point. Of the lists, only words without
// letters come to be empty.
func TestEmptyOutput(t *testing.T) {
	wantTold(t, unit, "letters", ".")
	wantTold(t, unit, "to 1 1", ".")
	wantTold(t, mat(1, 2, 3, 4), "to 00001 1", ".")
	wantTold(t, unit, "forms 1", "0")
	wantTold(t, unit, "forms 2", "0")
	wantOutput(t, "letters\n", ".\ntrace 2\n")
	wantOutput(t, "word LR\nword \nletters\n", "ok\nok\n.\ntrace 2\n")
}

// failingLines returns lines that fail for each matrix.
func failingLines() []string {
	return []string{
		"mat ", "mat x", "mat 1 2 3", "mat 1 2 3 4 5", "mat 1 2 3 100000",
		"word x", "word lr", "word L R", "word LR ", "word  ", "word  L", "word .", "word L\r", "word " + strings.Repeat("R", 41), "word " + strings.Repeat("LR", 20), "word Ł",
		"list ", "list x", "list 1001", "list -1001", "list 1 2 -1001 3", "list 1000 1000 1000", "list" + strings.Repeat(" 0", 21), "list 1000 -1000 0 1000", "list 2 3 ", "list  2 3",
		"times ", "times 1", "times 1 2 3", "times 1 2 3 4 5", "power ", "power 51", "power -51", "power x", "power 99999", "power 1 1",
		"rests ", "rests 1", "rests 13", "rests 0", "rests -5", "rests 5 5", "move ", "move 1", "move 1 2 3", "move x 1",
		"to ", "to 2", "to 2 4", "to 0 1", "to 1 0", "to -1 1", "to -2 -3", "to 42 1", "to 1 42", "to 2 3 1",
		"necklaces ", "necklaces 2", "necklaces 31", "necklaces -3", "necklaces 3 4", "period ", "period 1", "period 13", "period -2", "period 2 2", "orbits ", "orbits 1", "orbits 13", "orbits -2", "orbits 2 2",
		"has ", "has 1", "has 1 x", "has 1 2 3", "gcd ", "gcd 1", "gcd 1 2 3", "gcd 10001 0", "gcd 0 -10001", "gcd x 1",
		"forms ", "forms 0", "forms -3", "forms 401", "forms x", "forms 3 4", "short ", "short 1 2 1", "short 0 0 0", "short -1 0 -1", "short 1 0 -1", "short 1 0", "short 1 0 1 0", "short 10001 0 1", "short 1 0 10001",
	}
}

// What fails changes nothing, and the lines behind it are run.
func TestLinesThatFail(t *testing.T) {
	for _, m := range fewMats() {
		for _, line := range failingLines() {
			wantTold(t, m, line, "no")
		}
	}
	for _, c := range []struct {
		m    impl.Mat
		line string
	}{
		{mat(1000, 0, 0, 1001), "times 1000 0 0 1000"}, {mat(99999, 0, 0, 1), "times -11 0 0 1"},
		{mat(2, 0, 0, 2), "power 20"}, {mat(2, 0, 0, 2), "power -1"}, {mat(1, 2, 3, 4), "power -50"}, {impl.Mat{}, "power -1"}, {mat(99999, 0, 0, 0), "power 2"},
		{mat(2, 0, 0, 2), "back"}, {mat(1, 2, 3, 4), "back"}, {impl.Mat{}, "back"},
		{mat(1, 2, 2, 4), "form"}, {impl.Mat{}, "form"}, {mat(1001, 0, 0, 1000), "form"}, {mat(99999, 0, 0, -99999), "form"},
		{mat(99999, 0, 0, 1), "move 11 0"}, {mat(1, 0, 0, -99999), "move 0 11"},
		{mat(1, 2, 3, 4), "letters"}, {mat(0, 1, 1, 0), "letters"}, {turnMat, "letters"}, {mat(-1, 0, 0, -1), "letters"}, {mat(1, 41, 0, 1), "letters"}, {impl.Mat{}, "letters"},
		{mat(1, 2, 3, 4), "turns"}, {mat(0, 1, 1, 0), "turns"}, {mat(1, 1001, 0, 1), "turns"}, {mat(1, -1001, 0, 1), "turns"},
		{mat(1, 1, 0, 1), "order"}, {mat(2, 1, 1, 1), "order"}, {mat(0, 1, 1, 0), "order"}, {mat(-1, 1, 0, -1), "order"}, {impl.Mat{}, "order"},
		{unit, "necklace"}, {turnMat, "necklace"}, {mat(1, 2, 3, 4), "necklace"}, {mat(1, 40, 1, 41), "necklace"}, {mat(-2, -1, -1, -1), "necklace"}, {mat(1, 1999, 1, 2000), "necklace"},
		{mat(5, 2, 2, 1), "period 5"}, {mat(1, 2, 3, 4), "period 5"}, {mat(-1, 0, 0, -1), "period 3"}, {unit, "period 1"},
		{mat(5, 2, 2, 1), "orbits 5"}, {mat(1, 2, 3, 4), "orbits 5"}, {mat(-1, 0, 0, -1), "orbits 3"}, {unit, "orbits 13"},
		{mat(99999, 0, 0, 99998), "double"}, {mat(1001, 0, 0, 1000), "double"}, {mat(1001, 1, 1, 1001), "double"},
	} {
		wantTold(t, c.m, c.line, "no")
	}
}

// With a space behind it, a word that stands alone is another line, even if
// nothing follows.
func TestLinesWithoutARest(t *testing.T) {
	for _, m := range fewMats() {
		for _, word := range wordsAlone {
			for _, behind := range []string{" ", "  ", " 1", " 1 2", " 1 2 3 4", " x", " LR", " -", " show"} {
				wantTold(t, m, word+behind, "what")
			}
		}
	}
}

// Without a space behind it, a word with a rest is another line; with an empty
// rest it fails, unless it may be empty.
func TestLinesWithARest(t *testing.T) {
	for _, m := range fewMats() {
		for _, word := range wordsRested() {
			wantTold(t, m, word, "what")
			if word == "word" {
				wantMade(t, m, word+" ", unit)
			} else {
				wantTold(t, m, word+" ", "no")
			}
			wantTold(t, m, word+"  ", "no")
			wantTold(t, m, word+" x", "no")
		}
	}
}

func TestOtherLines(t *testing.T) {
	for _, m := range fewMats() {
		for _, line := range []string{
			"", " ", "  ", "zzz", " show", "  show", " mat 1 2 3 4", " 1 2 3 4", "1 2 3 4", "SHOW", "Show", "sho", "shows", "show.", "show\t", "\tshow", "show\r", "show\x00", "\x00", "\xff\xfe", "é", "matrix 1 2 3 4", "ma 1 2 3 4", "Mat 1 2 3 4", "MAT 1 2 3 4",
			"mat\t1 2 3 4", "mat1 2 3 4", "mat,1,2,3,4", "mat\u00a01 2 3 4", "Word LR", "words LR", "wordLR", "list2 3", "what", "ok", "no", "yes", "not", ".", "-", "trace 2", "det 1", "move3 2", "powers 2", "rest 5", "period5", "fo 3", "gcd12 18", "unit", "alone", "turn", "turned back", "show show", "malformed", "has\u20031 2",
		} {
			wantTold(t, m, line, "what")
		}
		// Pieces of words are other lines, with and without a rest.
		for _, word := range append(wordsRested(), wordsAlone...) {
			for n := 1; n < len(word); n++ {
				piece := word[:n]
				if !slices.Contains(wordsAlone, piece) {
					wantTold(t, m, piece, "what")
				}
				wantTold(t, m, piece+" 1", "what")
			}
			wantTold(t, m, word+".", "what")
			wantTold(t, m, word+"\t1", "what")
		}
	}
}

// Numbers have one to five digits, and at most one sign ahead.
func TestNumberTexts(t *testing.T) {
	good := map[string]int{"0": 0, "7": 7, "42": 42, "123": 123, "9876": 9876, "12345": 12345, "99999": 99999, "00000": 0, "00": 0, "007": 7, "00042": 42, "01234": 1234,
		"-0": 0, "-00000": 0, "-1": -1, "-10": -10, "-99999": -99999, "-00012": -12, "08": 8, "-09": -9, "010": 10}
	for text, n := range good {
		wantMade(t, unit, "mat "+text+" 2 3 4", mat(n, 2, 3, 4))
		wantMade(t, unit, "mat 1 "+text+" 3 4", mat(1, n, 3, 4))
		wantMade(t, unit, "mat 1 2 "+text+" 4", mat(1, 2, n, 4))
		wantMade(t, unit, "mat 1 2 3 "+text, mat(1, 2, 3, n))
		wantMade(t, mat(5, 6, 7, 8), "mat "+text+" "+text+" "+text+" "+text, mat(n, n, n, n))
		wantTold(t, unit, "move "+text+" 1", numbersText(n, 1))
	}
	wantMade(t, mat(2, 1, 1, 1), "power -00003", mat(5, -8, -8, 13))
	wantMade(t, unit, "list 00002 03", mat(2, 5, 1, 3))
	wantMade(t, mat(2, 5, 1, 3), "rests 00004", mat(2, 1, 1, 3))
	bad := []string{"", "-", "--1", "---1", "--", "-+1", "+-1", "+1", "+", "+0", "000001", "000000", "100000", "123456", "-123456", "-000001", "99999999999999999999", "1-", "1-2", "1.0", ".", "1.", "1,", "1e2", "0x1", "0b1", "0o7", "1_0", "_1", "1_",
		"x", "1x", "x1", "a", "L", "\t1", "1\t", "\r", "1\r", "\x00", "1\x00", "\xff", "\xb2", "²", "１", "٣", "−1", "\u00a01", "Inf", "NaN", "'1'", "\"1\"", "1/1", "(1)"}
	for _, text := range bad {
		for _, m := range []impl.Mat{unit, mat(5, 6, 7, 8)} {
			wantTold(t, m, "mat "+text+" 2 3 4", "no")
			wantTold(t, m, "mat 1 "+text+" 3 4", "no")
			wantTold(t, m, "mat 1 2 "+text+" 4", "no")
			wantTold(t, m, "mat 1 2 3 "+text, "no")
			wantTold(t, m, "list "+text, "no")
			wantTold(t, m, "list 2 "+text+" 3", "no")
		}
		for _, line := range restedLines {
			numbers := strings.Fields(line.rest)
			for i := range numbers {
				changed := slices.Clone(numbers)
				changed[i] = text
				wantTold(t, unit, line.word+" "+strings.Join(changed, " "), "no")
			}
		}
	}
}

// Each word has just as many numbers as are told, with one space between.
func TestCountsAndSpaces(t *testing.T) {
	for _, line := range restedLines {
		start := line.word + " "
		got := impl.Execute(scriptOf(start + line.rest))
		if want := plainOutput(scriptOf(start + line.rest)); got != want || strings.HasPrefix(got, "no") || strings.HasPrefix(got, "what") {
			t.Fatalf("Execute of %q returned %q, want %q", start+line.rest, got, want)
		}
		numbers := strings.Fields(line.rest)
		for _, rest := range []string{
			strings.Join(numbers[1:], " "), strings.Join(numbers[:len(numbers)-1], " "), line.rest + " 1", "1 " + line.rest, line.rest + " 1 1", line.rest + " " + line.rest,
			line.rest + " ", line.rest + "  ", " " + line.rest, "  " + line.rest, line.rest + "\t", line.rest + "\r", "\t" + line.rest, line.rest + " x", line.rest + ".",
		} {
			wantTold(t, unit, start+rest, "no")
		}
		for i := 1; i < len(numbers); i++ {
			for _, between := range []string{"  ", "   ", "\t", "", ",", " , ", "\u00a0", " \t", "\r", " - "} {
				rest := strings.Join(numbers[:i], " ") + between + strings.Join(numbers[i:], " ")
				wantTold(t, unit, start+rest, "no")
			}
		}
	}
	for n := 1; n <= 20; n++ {
		rest := strings.Repeat(" 0", n)
		wantMade(t, mat(1, 2, 3, 4), "list"+rest, plainTurnOf(make([]int, n)).m)
		wantTold(t, mat(1, 2, 3, 4), "list"+rest+" ", "no")
		wantTold(t, mat(1, 2, 3, 4), "list "+rest, "no")
		wantTold(t, mat(1, 2, 3, 4), "list 1 "+rest, "no")
	}
}

// The matrix may have more than five digits, only the numbers of a rest may not.
func TestNumbersBeyondFiveDigits(t *testing.T) {
	wantOutput(t, scriptOf("mat 1000 0 0 1000", "times 1000 0 0 1000", "show", "trace", "det", "double", "form", "power 2", "show"),
		scriptOf("ok", "ok", "1000000 0 0 1000000", "2000000", "1000000000000", "1000000 1000000", "no", "no", "1000000 0 0 1000000", "trace 2000000"))
	wantOutput(t, scriptOf("mat -1000 0 0 1000", "times 1000 0 0 1000", "show", "move 1 -1", "move 2 0", "rests 12"),
		scriptOf("ok", "ok", "-1000000 0 0 1000000", "-1000000 -1000000", "no", "ok", "trace 12"))
	wantOutput(t, scriptOf("mat 1 99999 0 1", "power 10", "show", "power 2", "turned", "show"),
		scriptOf("ok", "ok", "1 999990 0 1", "no", "ok", "1 0 999990 1", "trace 2"))
}

// Each line meets the matrix that the lines ahead of it leave.
func TestLinesOneAfterTheOther(t *testing.T) {
	wantOutput(t, scriptOf("show", "mat 2 1 1 1", "times 2 1 1 1", "show", "times x", "power 2", "show", "zzz", "back", "turned", "mirror", "show", "letters", "rests 5", "period 5", "form", "show"),
		scriptOf("1 0 0 1", "ok", "ok", "5 3 3 2", "no", "ok", "34 21 21 13", "what", "ok", "ok", "ok", "34 21 21 13", "RLRLRLRL", "ok", "5", "ok", "1 3 0 11", "trace 12"))
	wantOutput(t, scriptOf("word LLR", "necklace", "list 3 2", "show", "necklace", "turns", "mat 1 2 3", "show", "word LX", "trace"),
		scriptOf("ok", "LLR", "ok", "3 5 1 2", "LRRR", "3 2 1", "no", "3 5 1 2", "no", "5", "trace 5"))
}

func TestPromise67(t *testing.T) {
	wantOutput(t, "", "trace 2\n")
	for _, script := range sampleScripts(600) {
		if got := impl.Execute(script); got == "" {
			t.Fatalf("the output of %q is empty", script)
		}
		for _, tail := range []string{"x", "show", "mat 7 0 0 9", "zzz", " ", "\r", "\x00", "mat x", strings.Repeat("y", max(600-len(script), 0))} {
			if len(script)+len(tail) <= 600 {
				wantOutput(t, script+tail, impl.Execute(script))
			}
		}
	}
	for n := range 1300 {
		for _, piece := range []string{"x", "\n", "\xff"} {
			if got := impl.Execute(strings.Repeat(piece, n)); got == "" {
				t.Fatalf("the output of %q, %d times, is empty", piece, n)
			}
		}
	}
}

func TestPromise68(t *testing.T) {
	for _, script := range sampleScripts(impl.MaxScript - 10) {
		body, last := parts(t, script)
		wantOutput(t, script+"zzz\nmat x\n", body+"what\nno\n"+last)
	}
}

func TestPromise69(t *testing.T) {
	for _, script := range sampleScripts(impl.MaxScript - 10) {
		body, last := parts(t, script)
		got := impl.Execute(script + "show\nshow\n")
		shown, ok := strings.CutPrefix(got, body)
		shown, okLast := strings.CutSuffix(shown, last)
		if !ok || !okLast || len(shown) == 0 || shown[:len(shown)/2] != shown[len(shown)/2:] || strings.Count(shown, "\n") != 2 {
			t.Fatalf("Execute of %q and show twice returned %q", script, got)
		}
	}
}

func TestPromise70(t *testing.T) {
	for _, w := range append(sampleWords(), noWords()...) {
		if len(w) > 200 || strings.Contains(w, "\n") {
			continue
		}
		m, ok := impl.WordMat(w)
		if !ok {
			wantOutput(t, scriptOf("word "+w, "letters"), scriptOf("no", ".", "trace 2"))
			continue
		}
		want := w
		if w == "" {
			want = "."
		}
		wantOutput(t, scriptOf("word "+w, "letters"), scriptOf("ok", want, fmt.Sprintf("trace %d", m.A+m.D)))
	}
}

func TestPromise71(t *testing.T) {
	for _, m := range shortMats() {
		det, trace := mustDet(t, m), mustTrace(t, m)
		wantOutput(t, scriptOf("mat "+matText(m), "det", "trace"), fmt.Sprintf("ok\n%d\n%d\ntrace %d\n", det, trace, trace))
	}
}

// Each line of the pool meets each matrix.
func TestLinesByTheFunctions(t *testing.T) {
	pool := slices.Concat(linePool(), failingLines())
	for _, m := range shortMats() {
		for _, line := range pool {
			script := scriptOf("mat "+matText(m), line, "show")
			wantOutput(t, script, plainOutput(script))
		}
	}
}

// Scripts of many lines have the outputs of the functions of the chapters before.
func TestScriptsByTheFunctions(t *testing.T) {
	pool := linePool()
	kinds := map[string]bool{}
	for seed := range 3000 {
		script := rulelessScript(pool, seed, 600)
		want := plainOutput(script)
		wantOutput(t, script, want)
		for _, line := range strings.Split(want, "\n") {
			kinds[strings.SplitN(line, " ", 2)[0]] = true
		}
		if strings.Count(want, "\n") != strings.Count(script, "\n")+1 {
			t.Fatalf("%q has the output %q", script, want)
		}
	}
	for _, kind := range []string{"ok", "no", "what", "yes", "not", ".", "trace"} {
		if !kinds[kind] {
			t.Fatalf("no script has the output %q", kind)
		}
	}
}

// Any bytes are a script, cut and changed as they may be.
func TestScriptsOfAnyBytes(t *testing.T) {
	pool := linePool()
	for seed := range 1500 {
		script := []byte(rulelessScript(pool, seed, 200))
		for _, x := range rulelessList(seed, 12, 30000) {
			if len(script) > 0 {
				script[signless(x)%len(script)] = byte(x * 31)
			}
		}
		wantOutput(t, string(script), plainOutput(string(script)))
		changed := strings.NewReplacer(" ", "\n").Replace(string(script))
		wantOutput(t, changed, plainOutput(changed))
	}
}

// A script begins with the unit, whatever the one before has left, also while
// others are run.
func TestScriptsBeginAnew(t *testing.T) {
	scripts := sampleScripts(300)
	var group sync.WaitGroup
	for range 4 {
		group.Go(func() {
			for _, script := range scripts {
				if got, want := impl.Execute(script), plainOutput(script); got != want {
					t.Errorf("Execute of %q returned %q, want %q", script, got, want)
				}
			}
		})
	}
	group.Wait()
	wantOutput(t, "mat 7 0 0 9\n", "ok\ntrace 16\n")
	wantOutput(t, "show\n", "1 0 0 1\ntrace 2\n")
	wantOutput(t, "", "trace 2\n")
}
