package tests

import (
	"fmt"
	"math"
	"math/rand"
	"regexp"
	"slices"
	"strconv"
	"strings"
	"sync"
	"testing"
	"unsafe"

	"loop.example/g00178/impl"
)

// The document's numbers, written out here so that changed constants are seen.
const (
	mostText     = 20000
	mostInLine   = 9999999999
	tooMuch      = -1
	tooManyLines = -2
)

// lineForm is what the line of a kind looks like: P is a place, T a text, the others are numbers.
func lineForm(kind int) []string {
	forms := []string{
		1: "open A", 2: "add A T", 3: "store A B C", 4: "sync A", 5: "crash A B", 6: "lose A", 7: "fill A", 8: "mend",
		9: "seal A", 10: "plan", 11: "fix B C", 12: "close", 13: "trim P", 14: "read A B", 15: "drop A", 16: "prune A",
	}
	return strings.Fields(forms[kind])
}

// lineIs is what DeedLine must answer, by a model of the tests' own.
func lineIs(d impl.Deed) (string, bool) {
	if !isDeed(d) {
		return "", false
	}
	form := lineForm(d.Kind)
	line := form[0]
	for _, part := range form[1:] {
		x, isNumber := map[string]int{"A": d.A, "B": d.B, "C": d.C}[part]
		epoch, off := d.A/epochStep, d.A%epochStep
		switch {
		case isNumber && (x < 0 || len(strconv.Itoa(x)) > 10):
			return "", false
		case isNumber:
			line += fmt.Sprintf(" %d", x)
		case part == "P" && (epoch < 1 || epoch > lastEpoch || off < 1 || off > lastOff):
			return "", false
		case part == "P":
			line += fmt.Sprintf(" e%d.%d", epoch, off)
		case strings.ContainsRune(d.Text, '\n'):
			return "", false
		default:
			line += " " + d.Text
		}
	}
	return line, true
}

// linePatterns goes by kind: each has a group for each part of the form.
var linePatterns = sync.OnceValue(func() map[int]*regexp.Regexp {
	all := map[int]*regexp.Regexp{}
	for kind := 1; kind <= lastKind; kind++ {
		pattern := `^` + lineForm(kind)[0]
		for _, part := range lineForm(kind)[1:] {
			switch part {
			case "P":
				pattern += ` e([1-9]|[12][0-9]|30)\.([1-9]|[1-5][0-9]|60)`
			case "T":
				pattern += ` ([^\n]*)`
			default:
				pattern += ` (0|[1-9][0-9]{0,9})`
			}
		}
		all[kind] = regexp.MustCompile(pattern + `$`)
	}
	return all
})

// parseIs is what DeedParse must answer: it knows nothing of lineIs.
func parseIs(line string) (impl.Deed, bool) {
	for kind, pattern := range linePatterns() {
		found := pattern.FindStringSubmatch(line)
		if found == nil {
			continue
		}
		d := impl.Deed{Kind: kind}
		for i, part := range lineForm(kind)[1:] {
			x, _ := strconv.Atoi(found[i+1])
			switch part {
			case "A":
				d.A = x
			case "B":
				d.B = x
			case "C":
				d.C = x
			case "P":
				off, _ := strconv.Atoi(found[2])
				d.A = at(x, off)
			case "T":
				d.Text = found[i+1]
			}
		}
		if len(d.Text) > mostData {
			return impl.Deed{}, false
		}
		return d, true
	}
	return impl.Deed{}, false
}

func short(s string) string {
	return fmt.Sprintf("%.120q", s)
}

func checkDeedLine(t *testing.T, d impl.Deed) (string, bool) {
	t.Helper()
	line, ok := impl.DeedLine(d)
	if want, wantOk := lineIs(d); line != want || ok != wantOk {
		t.Fatalf("DeedLine(%+v): %s, %v; the model says %s, %v", d, short(line), ok, short(want), wantOk)
	}
	if back, isRead := impl.DeedParse(line); ok && (!isRead || back != d) {
		t.Fatalf("%s, the line of %+v, is read as %+v, %v", short(line), d, back, isRead)
	}
	return line, ok
}

func checkDeedParse(t *testing.T, line string) (impl.Deed, bool) {
	t.Helper()
	d, ok := impl.DeedParse(line)
	if want, wantOk := parseIs(line); d != want || ok != wantOk {
		t.Fatalf("DeedParse(%s): %+v, %v; the model says %+v, %v", short(line), d, ok, want, wantOk)
	}
	if back, isWritten := impl.DeedLine(d); ok && (!isWritten || back != line) {
		t.Fatalf("%+v, read of %s, is written as %s, %v", d, short(line), short(back), isWritten)
	}
	return d, ok
}

// The four below are as the document has it, and not by the model; that one must say the same.

func checkLineOf(t *testing.T, d impl.Deed, want string) {
	t.Helper()
	if line, ok := checkDeedLine(t, d); !ok || line != want {
		t.Fatalf("DeedLine(%+v): %s, %v; want %s", d, short(line), ok, short(want))
	}
	if got, ok := checkDeedParse(t, want); !ok || got != d {
		t.Fatalf("DeedParse(%s): %+v, %v; want %+v", short(want), got, ok, d)
	}
}

func checkNoLineOf(t *testing.T, d impl.Deed) {
	t.Helper()
	if line, ok := checkDeedLine(t, d); ok || line != "" {
		t.Fatalf("DeedLine(%+v): %s, %v", d, short(line), ok)
	}
}

func checkNoDeed(t *testing.T, lines ...string) {
	t.Helper()
	for _, line := range lines {
		if d, ok := checkDeedParse(t, line); ok || d != (impl.Deed{}) {
			t.Fatalf("DeedParse(%s): %+v, %v", short(line), d, ok)
		}
	}
}

func checkEventText(t *testing.T, e impl.Event, want string) {
	t.Helper()
	if got := impl.EventText(e); got != want || eventIs(e) != want {
		t.Fatalf("EventText(%+v): %s, not %s; the model says %s", e, short(got), short(want), short(eventIs(e)))
	}
}

func TestDeskLimits(t *testing.T) {
	if impl.MaxText != mostText {
		t.Errorf("MaxText is %d", impl.MaxText)
	}
}

func TestDeedLineKnown(t *testing.T) {
	for _, one := range []struct {
		deed impl.Deed
		line string
	}{
		{openDeed(7), "open 7"}, {addDeed(0, "x y"), "add 0 x y"}, {addDeed(12, "#"), "add 12 #"}, {storeDeed(1, 2, 3), "store 1 2 3"}, {syncDeed(4), "sync 4"},
		{crashDeed(5, 6), "crash 5 6"}, {loseDeed(7), "lose 7"}, {fillDeed(8), "fill 8"}, {mendDeed(), "mend"}, {sealDeed(9), "seal 9"}, {planDeed(), "plan"}, {fixDeed(10, 11), "fix 10 11"},
		{closeDeed(), "close"}, {trimDeed(at(12, 13)), "trim e12.13"}, {readDeed(1, 255), "read 1 255"}, {dropDeed(14), "drop 14"}, {pruneDeed(15), "prune 15"},
	} {
		checkLineOf(t, one.deed, one.line)
	}
}

// Each number of each kind, where the others are 0.
func TestDeedLineNumbers(t *testing.T) {
	for name, deed := range map[string]func(int) impl.Deed{
		"open %d": openDeed, "add %d ": func(x int) impl.Deed { return addDeed(x, "") }, "add %d 5 6": func(x int) impl.Deed { return addDeed(x, "5 6") },
		"store %d 0 0": func(x int) impl.Deed { return storeDeed(x, 0, 0) }, "store 0 %d 0": func(x int) impl.Deed { return storeDeed(0, x, 0) }, "store 0 0 %d": func(x int) impl.Deed { return storeDeed(0, 0, x) },
		"sync %d": syncDeed, "crash %d 0": func(x int) impl.Deed { return crashDeed(x, 0) }, "crash 0 %d": func(x int) impl.Deed { return crashDeed(0, x) }, "lose %d": loseDeed, "fill %d": fillDeed, "seal %d": sealDeed,
		"fix %d 0": func(x int) impl.Deed { return fixDeed(x, 0) }, "fix 0 %d": func(x int) impl.Deed { return fixDeed(0, x) }, "read %d 0": func(x int) impl.Deed { return readDeed(x, 0) }, "read 0 %d": func(x int) impl.Deed { return readDeed(0, x) },
		"drop %d": dropDeed, "prune %d": pruneDeed,
	} {
		for _, x := range []int{0, 1, 9, 10, 99, 100, 255, 1048575, 1000000000, 1 << 32, mostInLine - 1, mostInLine} {
			checkLineOf(t, deed(x), fmt.Sprintf(name, x))
		}
		for _, x := range []int{-1, -7, -10, -mostInLine, math.MinInt, mostInLine + 1, mostInLine + 2, 99999999999, 1 << 40, math.MaxInt} {
			checkNoLineOf(t, deed(x))
			checkNoDeed(t, fmt.Sprintf(name, x))
		}
		for _, x := range []string{"", "00", "01", "007", "0000000001", "+1", "+0", "-0", "--1", "1-", "1+", "1a", "a1", "1a1", "0x1", "1_0", "1.0", "1,0", "1e1", "x", "A", "e1.1", "1\t", "\t1", "1\r", "1\x00", "\u0661", "\xff", "18446744073709551617", "4294967296000000000000000000000001", "00000000000", "12345678901234567890"} {
			checkNoDeed(t, strings.Replace(name, "%d", x, 1))
		}
	}
	checkLineOf(t, storeDeed(mostInLine, mostInLine, mostInLine), "store 9999999999 9999999999 9999999999")
	checkNoLineOf(t, storeDeed(-1, mostInLine+1, 0))
}

// A kind that is none, with and without what others name, and each kind with what it does not name.
func TestDeedLineBadDeeds(t *testing.T) {
	for _, kind := range []int{math.MinInt, -16, -2, -1, 0, 17, 18, 32, 256 + 1, 1<<32 + 4, math.MaxInt} {
		for _, d := range []impl.Deed{{}, {A: 1}, {A: 1, B: 1, C: 1}, {Text: "x"}, {A: at(1, 1)}, {A: -1}} {
			d.Kind = kind
			checkNoLineOf(t, d)
		}
	}
	for _, d := range badDeeds() {
		checkNoLineOf(t, d)
	}
	for kind := 1; kind <= lastKind; kind++ {
		names, _ := namedBy(kind)
		for name, d := range map[string]impl.Deed{"A": {A: 1}, "B": {B: 1}, "C": {C: 1}, "T": {Text: "x"}} {
			if d.Kind = kind; kind == 13 && name != "A" {
				d.A = at(1, 1)
			}
			if _, ok := checkDeedLine(t, d); ok != (strings.Contains(names, name) && kind != 13) {
				t.Errorf("%+v: %v", d, ok)
			}
		}
	}
}

// Every kind with every choice of what is not zero.
func TestDeedLineEvery(t *testing.T) {
	for kind := -2; kind <= lastKind+3; kind++ {
		for mask := range 1024 {
			d := impl.Deed{Kind: kind, A: []int{0, 1, -1, at(1, 1)}[mask&3], B: []int{0, 1, -1, mostInLine + 1}[mask>>2&3], C: []int{0, 10, -1, mostInLine}[mask>>4&3]}
			d.Text = []string{"", "x", " ", "x\n", strings.Repeat("x", mostData), strings.Repeat("x", mostData+1), "\n", "0 1"}[mask>>6&7]
			checkDeedLine(t, d)
		}
	}
}

func TestDeedLineTrim(t *testing.T) {
	checkLineOf(t, trimDeed(at(1, 1)), "trim e1.1")
	checkLineOf(t, trimDeed(at(lastEpoch, lastOff)), "trim e30.60")
	for text, place := range textsOfPlaces() {
		checkLineOf(t, trimDeed(place), "trim "+text)
	}
	for _, x := range notPlaces() {
		checkNoLineOf(t, trimDeed(x))
		checkNoDeed(t, fmt.Sprintf("trim %d", x))
	}
	for _, text := range []string{"", " ", "e", "e1", "e1.", "e.1", "1.1", "e0.1", "e1.0", "e31.1", "e1.61", "e01.1", "e1.01", "e+1.1", "e1.-1", "E1.1", "e1.1 ", " e1.1", "e1.1 0", "e1.1 e1.2", "e1 .1", "e1.1\n", "0", "1", "4294967297", "e1.1.1", "e1,1", "e1.a"} {
		checkNoDeed(t, "trim "+text)
	}
	// A place stands nowhere else.
	checkNoDeed(t, "open e1.1", "prune e1.1", "read e1.1 0", "fix e1.1 0")
}

// Texts keep all of their blanks; just a byte 10 can't be told.
func TestDeedLineText(t *testing.T) {
	for _, text := range []string{
		"", " ", "  ", "x", " x", "  x", "x ", "x  ", "x y", "x  y", " x y ", "1", "0 1", "add 0 x", "\t", "\r", "\x00", "\v\f", "#", "# x", "\xff\xfe", "\x80", "\xf0\x9f", "\u00e4\U0001f600", "\u0085\u2028", "\x0b\x09", `\n`, "\"", "%d",
		strings.Repeat(" ", mostData), strings.Repeat("x", mostData), strings.Repeat("\xff", mostData), strings.Repeat("\u00e4", mostData/2), strings.Repeat("x", mostData-1),
	} {
		checkLineOf(t, addDeed(0, text), "add 0 "+text)
		checkLineOf(t, addDeed(mostInLine, text), "add 9999999999 "+text)
		checkNoLineOf(t, addDeed(-1, text))
		checkNoLineOf(t, addDeed(mostInLine+1, text))
	}
	for _, text := range []string{
		"\n", "x\n", "\nx", "x\ny", "\n\n", " \n ", "\r\n", strings.Repeat("x", mostData-1) + "\n", strings.Repeat("x", mostData) + "\n",
		strings.Repeat("x", mostData+1), strings.Repeat(" ", mostData+1), strings.Repeat("\xff", mostData+1), strings.Repeat("\u00e4", mostData/2+1), strings.Repeat("x", mostText), strings.Repeat("x", 1<<20),
	} {
		checkNoLineOf(t, addDeed(0, text))
		checkNoDeed(t, "add 0 "+text)
	}
	for b := range 256 {
		text := string([]byte{byte(b)})
		if _, ok := checkDeedLine(t, addDeed(0, text)); ok != (b != '\n') {
			t.Errorf("byte %d: %v", b, ok)
		}
		checkDeedLine(t, addDeed(0, "x"+text+"y"))
		checkDeedParse(t, "add 0 "+text)
	}
	for size := range 60 {
		if _, ok := checkDeedParse(t, "add 3 "+strings.Repeat("y", size)); ok != (size <= mostData) {
			t.Errorf("%d bytes: %v", size, ok)
		}
	}
}

func TestDeedParseNone(t *testing.T) {
	checkNoDeed(t, "", " ", "  ", "\n", "\t", "#", "# open 7", "#open 7", "judge", "out 0", "out 1", "0", "1", "7 open", "x", "help", "opens", "ope", "op en 7", "opened 7", "what", "ok")
	for kind := 1; kind <= lastKind; kind++ {
		form := lineForm(kind)
		word, count := form[0], len(form)-1
		right := strings.ReplaceAll(strings.Join(append([]string{word}, slices.Repeat([]string{"1"}, count)...), " "), "trim 1", "trim e1.1")
		if d, ok := checkDeedParse(t, right); !ok || d.Kind != kind {
			t.Fatalf("%s: %+v, %v", right, d, ok)
		}
		if count > 0 {
			checkNoDeed(t, word, word+" ", right[:strings.LastIndex(right, " ")])
		}
		if kind != 2 {
			checkNoDeed(t, right+" ", right+"  ", right+" 1", right+" 0", right+" x", right+" e1.1", right+"\n", right+"\t", right+"\r", right+"\x00", right+" #", right+"\nplan")
		}
		checkNoDeed(t, " "+right, "\t"+right, "\n"+right, strings.ToUpper(right), strings.ToUpper(word[:1])+right[1:], "\x00"+right, "+"+right, "#"+right, word+right, word+"s"+right[len(word):], word[:len(word)-1]+right[len(word):])
		if count > 0 {
			checkNoDeed(t, strings.Replace(right, " ", "  ", 1), strings.Replace(right, " ", "\t", 1), strings.Replace(right, " ", "", 1), strings.Replace(right, " ", "\u00a0", 1), strings.Replace(right, " ", ",", 1))
		}
		if count > 1 && kind != 2 {
			checkNoDeed(t, strings.ReplaceAll(right, " ", "  "), right[:len(right)-2]+"  1", right[:len(right)-2]+"\t1", right[:len(right)-2]+"1")
		}
	}
}

// The blank ahead of a text that is empty is there, too.
func TestDeedParseAdd(t *testing.T) {
	checkNoDeed(t, "add", "add ", "add  ", "add 0", "add0 ", "add x", "add x ", "add -1 x", "add 00 x", "add 01 ", "add  0 x", "add 0\tx", "add 0\n", "add 0 \n", "add 12345678901 x", "add 0x")
	checkLineOf(t, addDeed(0, ""), "add 0 ")
	checkLineOf(t, addDeed(0, " "), "add 0  ")
	checkLineOf(t, addDeed(0, "\tx"), "add 0 \tx")
	checkLineOf(t, addDeed(10, "0"), "add 10 0")
}

// A line with one byte changed, put in or left out, at each place, is what the model says.
func TestDeedParseNear(t *testing.T) {
	read := 0
	for _, line := range []string{"open 7", "add 0 ", "add 10 x y", "store 1 20 3", "crash 5 1048575", "mend", "fix 10 0", "trim e2.10", "trim e30.60", "read 1 255", "prune 9999999999"} {
		for i := 0; i <= len(line); i++ {
			var near []string
			if i < len(line) {
				near = append(near, line[:i]+line[i+1:], line[:i]+line[i:i+1]+line[i:])
			}
			for b := range 256 {
				near = append(near, line[:i]+string([]byte{byte(b)})+line[i:])
				if i < len(line) {
					near = append(near, line[:i]+string([]byte{byte(b)})+line[i+1:])
				}
			}
			for _, other := range near {
				if _, ok := checkDeedParse(t, other); ok {
					read++
				}
			}
		}
	}
	if read < 1500 {
		t.Errorf("only %d are read", read)
	}
}

func TestDeedParseLong(t *testing.T) {
	for _, size := range []int{9, 10, 11, 12, 19, 20, 21, 40, 1000, 300000} {
		for _, digit := range []string{"0", "1", "9"} {
			long := strings.Repeat(digit, size)
			for _, line := range []string{"open " + long, "open 1" + long, "add " + long + " x", "store 1 " + long + " 2", "store 1 2 " + long, "crash 0 " + long, "trim e" + long + ".1", "trim e1." + long, "fix " + long + " " + long, long} {
				checkDeedParse(t, line)
			}
		}
		for _, other := range []string{" ", "open ", "\n", "#", "\x00", "-", "open"} {
			long := strings.Repeat(other, size)
			checkNoDeed(t, long, "open "+long, long+"open 1", "open 1"+long, "mend"+long)
		}
	}
}

// drawnNumber has any number of digits, and is often at a limit.
func drawnNumber(drawn *rand.Rand) int {
	switch drawn.Intn(12) {
	case 0:
		return -drawn.Intn(3)
	case 1:
		return mostInLine - 1 + drawn.Intn(4)
	case 2:
		return at(drawn.Intn(33), drawn.Intn(63))
	case 3:
		return drawn.Int() >> drawn.Intn(63)
	}
	return drawn.Intn(1 << drawn.Intn(12))
}

func drawnText(drawn *rand.Rand) string {
	text := ""
	for range drawn.Intn(8) * drawn.Intn(8) {
		text += []string{"x", " ", "0", "9", "#", "\t", "\xff", "\u00e4", "e1.1", "\r"}[drawn.Intn(10)]
	}
	if drawn.Intn(12) == 0 {
		text += "\n"
	}
	return text
}

// drawnLineDeed is mostly one that has a line, and has just what its kind names.
func drawnLineDeed(drawn *rand.Rand) impl.Deed {
	d := impl.Deed{Kind: 1 + drawn.Intn(lastKind)}
	names, _ := namedBy(d.Kind)
	if drawn.Intn(30) == 0 {
		names = "ABCT"[drawn.Intn(4):]
	}
	for _, name := range names {
		switch name {
		case 'A':
			d.A = drawnNumber(drawn)
		case 'B':
			d.B = drawnNumber(drawn)
		case 'C':
			d.C = drawnNumber(drawn)
		case 'T':
			d.Text = drawnText(drawn)
		}
	}
	if d.Kind == 13 && drawn.Intn(3) > 0 {
		d.A = at(1+drawn.Intn(lastEpoch), 1+drawn.Intn(lastOff))
	}
	return d
}

// nearLine is a line with something else in a place or two.
func nearLine(drawn *rand.Rand, line string) string {
	for range 1 + drawn.Intn(2) {
		i := drawn.Intn(len(line) + 1)
		j := min(len(line), i+drawn.Intn(3))
		line = line[:i] + []string{"", " ", "  ", "0", "1", "-", "+", "e", ".", "\t", "\n", "#", "a", "x y", "9999999999", "E", " 0"}[drawn.Intn(17)] + line[j:]
	}
	return line
}

// What DeedLine writes DeedParse reads as it was, and what DeedParse reads DeedLine writes as it was.
func TestDeedLineDrawn(t *testing.T) {
	t.Parallel()
	drawn := rand.New(rand.NewSource(16))
	written, read, bad := map[int]int{}, map[int]int{}, 0
	for range 60000 {
		d := drawnLineDeed(drawn)
		line, ok := checkDeedLine(t, d)
		if !ok {
			continue
		}
		written[d.Kind]++
		got, ok := checkDeedParse(t, nearLine(drawn, line))
		if !ok {
			bad++
			continue
		}
		read[got.Kind]++
	}
	for kind := 1; kind <= lastKind; kind++ {
		if written[kind] < 1000 || read[kind] < 20 {
			t.Errorf("of kind %d %d are written, %d read", kind, written[kind], read[kind])
		}
	}
	if bad < 10000 {
		t.Errorf("only %d are none", bad)
	}
}

// No two deeds have one line, and no two lines are of one deed.
func TestDeedLineOne(t *testing.T) {
	drawn := rand.New(rand.NewSource(61))
	deeds, lines := map[string]impl.Deed{}, map[impl.Deed]string{}
	for range 30000 {
		d := drawnLineDeed(drawn)
		line, ok := impl.DeedLine(d)
		if !ok {
			continue
		}
		if other, isThere := deeds[line]; isThere && other != d {
			t.Fatalf("%+v and %+v have the line %s", d, other, short(line))
		}
		if other, isThere := lines[d]; isThere && other != line {
			t.Fatalf("%+v has the lines %s and %s", d, short(line), short(other))
		}
		deeds[line], lines[d] = d, line
	}
}

// eventIs is what EventText must answer, by a model of the tests' own.
func eventIs(e impl.Event) string {
	place := ""
	if epoch, off := e.At/epochStep, e.At%epochStep; epoch >= 1 && epoch <= lastEpoch && off >= 1 && off <= lastOff {
		place = fmt.Sprintf("e%d.%d", epoch, off)
	}
	switch e.Kind {
	case evData:
		return strings.Join([]string{"data", place, e.Data}[:2+min(1, len(e.Data))], " ")
	case evHole, evLoss, evTrim:
		return map[int]string{evHole: "hole ", evLoss: "loss ", evTrim: "trim "}[e.Kind] + place
	case evEra:
		return fmt.Sprintf("era %d", max(0, e.At))
	}
	return ""
}

func TestEventTextKnown(t *testing.T) {
	place := at(3, 14)
	checkEventText(t, impl.Event{Kind: evData, At: place, Data: "x y"}, "data e3.14 x y")
	checkEventText(t, impl.Event{Kind: evData, At: place}, "data e3.14")
	checkEventText(t, impl.Event{Kind: evHole, At: place}, "hole e3.14")
	checkEventText(t, impl.Event{Kind: evLoss, At: place}, "loss e3.14")
	checkEventText(t, impl.Event{Kind: evEra, At: 3}, "era 3")
	checkEventText(t, impl.Event{Kind: evTrim, At: place}, "trim e3.14")
	for _, text := range []string{" ", "  ", " x", "x ", " x  y ", "\n", "a\nb", "\x00", "\xff", "#", "0", strings.Repeat("x", mostData), strings.Repeat("y", 5000)} {
		checkEventText(t, impl.Event{Kind: evData, At: place, Data: text}, "data e3.14 "+text)
	}
	// Data is told of none but the first kind.
	for kind, want := range map[int]string{evHole: "hole e3.14", evLoss: "loss e3.14", evTrim: "trim e3.14", evEra: "era 12884901902", 0: "", 6: ""} {
		checkEventText(t, impl.Event{Kind: kind, At: place, Data: "x"}, want)
	}
}

func TestEventTextKinds(t *testing.T) {
	for _, kind := range append(wrongNumbers(), 0, 6, 7, -5, 1<<32+1, 1<<40+5) {
		for _, x := range []int{0, 1, at(1, 1), -1} {
			for _, data := range []string{"", "x"} {
				checkEventText(t, impl.Event{Kind: kind, At: x, Data: data}, "")
			}
		}
	}
	checkEventText(t, impl.Event{}, "")
}

func TestEventTextPlaces(t *testing.T) {
	words := map[int]string{evData: "data ", evHole: "hole ", evLoss: "loss ", evTrim: "trim "}
	for kind, word := range words {
		for text, place := range textsOfPlaces() {
			checkEventText(t, impl.Event{Kind: kind, At: place}, word+text)
		}
		for _, x := range notPlaces() {
			checkEventText(t, impl.Event{Kind: kind, At: x}, word)
		}
	}
	for _, x := range notPlaces() {
		checkEventText(t, impl.Event{Kind: evData, At: x, Data: "x"}, "data  x")
		checkEventText(t, impl.Event{Kind: evData, At: x, Data: " "}, "data   ")
	}
}

func TestEventTextEra(t *testing.T) {
	for _, x := range []int{0, -1, -2, -31, -mostInLine, math.MinInt, math.MinInt + 1} {
		checkEventText(t, impl.Event{Kind: evEra, At: x}, "era 0")
	}
	for _, x := range []int{1, 2, 9, 10, 30, 31, 32, 255, mostInLine + 1, at(1, 1)} {
		checkEventText(t, impl.Event{Kind: evEra, At: x}, fmt.Sprintf("era %d", x))
	}
	checkEventText(t, impl.Event{Kind: evEra, At: math.MaxInt}, "era 9223372036854775807")
	checkEventText(t, impl.Event{Kind: evEra, At: 2, Data: "x"}, "era 2")
}

// worldLine is what WorldLine must answer, by a model of the tests' own and by deeds.
func (do deedsBy) worldLine(w impl.World, line string) (impl.World, string) {
	same := deepCopy(w)
	asked := map[string]int{"out 0": 0, "out 1": 1}
	reader, isOut := asked[line]
	last := func() int { return len(w.Readers[reader].Out) - 1 }
	switch {
	case !isWorld(w):
		return same, "bad"
	case len(line) == 0 || line[0] == 35:
		return same, ""
	case line == "judge" && verdictsAre(w) == allSo:
		return same, "yes"
	case line == "judge":
		return same, "no"
	case isOut && last() < 0:
		return same, "none"
	case isOut:
		return same, eventIs(w.Readers[reader].Out[last()])
	}
	d, ok := parseIs(line)
	if !ok {
		return same, "what"
	}
	next, code := do(w, d)
	if code != wdDone {
		next = same
	}
	return next, strings.Fields("ok bad none lost refused wait")[code]
}

func checkWorldLine(t *testing.T, w impl.World, line string) (impl.World, string) {
	t.Helper()
	got, said := impl.WorldLine(w, line)
	for _, do := range bothDeedsBy() {
		if want, wantSaid := do.worldLine(w, line); said != wantSaid || !sameWorld(got, want) {
			t.Fatalf("WorldLine of %s, %s: %s, %s; want %s, %s", whole(w), short(line), short(said), whole(got), short(wantSaid), whole(want))
		}
	}
	return got, said
}

// checkSays is of a line that leaves the world as it was, without a model.
func checkSays(t *testing.T, w impl.World, want string, lines ...string) {
	t.Helper()
	for _, line := range lines {
		if got, said := checkWorldLine(t, w, line); said != want || !sameWorld(got, w) {
			t.Fatalf("WorldLine of %s, %s: %s, %s; want %s", whole(w), short(line), short(said), whole(got), short(want))
		}
	}
}

// checkMoves is of a line that is done.
func checkMoves(t *testing.T, w impl.World, line string, change func(*impl.World)) impl.World {
	t.Helper()
	got, said := checkWorldLine(t, w, line)
	if want := changedWorld(w, change); said != "ok" || !sameWorld(got, want) {
		t.Fatalf("WorldLine of %s, %s: %s, %s; want %s", whole(w), short(line), short(said), whole(got), whole(want))
	}
	return got
}

// someLines is of all sorts.
func someLines() []string {
	return []string{
		"", "#", "# open 7", "#judge", " ", "judge", "judge ", " judge", "judge 0", "JUDGE", "judged", "out", "out ", "out 0", "out 1", "out 2", "out 3", "out -1", "out +0", "out 00", "out 01", "out 0 1", "out 0 ", " out 0", "out  0", "out x", "out\t0", "out 0\n", "OUT 0", "out0", "out 4294967296",
		"open 7", "open 3", "open 0", "open 255", "add 0 x", "add 0 ", "add 0", "add 9 x", "add 1 x y", "store 0 1 1", "store 0 1 3", "store 0 2 0", "store 0 9 1", "sync 0", "sync 1", "sync 2", "sync 9", "crash 1 1", "crash 1 9999999999", "crash 2 0", "lose 0", "lose 2", "fill 2", "fill 0", "fill 3",
		"mend", "seal 0", "seal 1", "seal 2", "seal 3", "plan", "fix 1 0", "fix 2 1", "fix 9 0", "fix 2 2", "close", "trim e1.1", "trim e2.60", "trim e30.1", "trim 5", "read 0 255", "read 1 255", "read 1 1", "read 2 1", "drop 0", "drop 1", "drop 9", "prune 0", "prune 1", "prune 2",
		"help", "what", "ok", "mend 1", "\n", "open 7\n", "open 7\nplan", "open 07", "x #",
	}
}

// A world that is not right comes back as it was, whatever the line is: also an empty one, and one that asks.
func TestWorldLineBadWorld(t *testing.T) {
	for _, w := range badWorlds() {
		checkSays(t, w, "bad", someLines()...)
	}
}

func TestWorldLineRemarks(t *testing.T) {
	for _, w := range deedWorlds() {
		if !isWorld(w) {
			continue
		}
		checkSays(t, w, "", "", "#", "##", "# x", "#open 7", "# open 7", "#\n", "#\x00", "#\xff", "# "+strings.Repeat("x", mostText))
		checkSays(t, w, "what", " ", " #", "\t#", "x#", "\n", "\n#", "\x00", "\xef\xbc\x83", "mend #", "mend# ")
	}
}

func TestWorldLineJudge(t *testing.T) {
	for i := range 32 {
		w := faultyWorld(i)
		checkSays(t, w, []string{"yes", "no"}[min(i, 1)], "judge")
		checkSays(t, w, "what", "judge ", " judge", "judge 0", "JUDGE", "Judge", "judged", "judg", "judge\n", "judge #")
		w.Torn = true
		checkSays(t, w, []string{"yes", "no", "no", "no"}[i&3], "judge")
	}
	for _, w := range append(someWorlds()[2:20], emptyWorld(conf(1, 0)), rightFive(), twoWorld(), mendWorld()) {
		_, said := checkWorldLine(t, w, "judge")
		if impl.JudgeAll(w) != (said == "yes") || said != "yes" && said != "no" {
			t.Fatalf("judge of %s: %s", whole(w), said)
		}
	}
}

func TestWorldLineOut(t *testing.T) {
	none := func(w impl.World, lines ...string) {
		t.Helper()
		checkSays(t, w, "none", lines...)
		checkSays(t, w, "what", "out", "out ", "out 2", "out 3", "out 10", "out -1", "out -0", "out +1", "out 00", "out 01", "out 000", "out 0 1", "out 0 0", "out 0 ", "out 1 ", "out  0", " out 0", "out\t0", "out 0\t", "out 0\n", "out a", "out e1.1", "OUT 0", "Out 1", "out0", "out1", "outs 0", "out 0000000000", "out 9999999999", "out 4294967296", "out 18446744073709551616", "out 0.", "out #0")
	}
	w := sureWorld()
	none(w, "out 0", "out 1")
	w = checkMoves(t, w, "read 0 255", readTells(0, 1, 2, toldData(1, "a")))
	checkSays(t, w, "data e1.1 a", "out 0")
	none(w, "out 1")
	w = checkMoves(t, w, "read 0 255", readTells(0, 1, 3, toldData(2, "b")))
	w = checkMoves(t, w, "read 1 255", readTells(1, 1, 2, toldData(1, "a")))
	checkSays(t, w, "data e1.2 b", "out 0")
	checkSays(t, w, "data e1.1 a", "out 1")
	w = after(t, w, trimDeed(at(1, 9)))
	w = checkMoves(t, w, "read 1 0", readTells(1, 1, 10, impl.Event{Kind: evTrim, At: at(1, 9)}))
	checkSays(t, w, "data e1.2 b", "out 0")
	checkSays(t, w, "trim e1.9", "out 1")
	none(w)
}

// Whatever a reader told last is told again, also what no reader comes to.
func TestWorldLineOutTold(t *testing.T) {
	for _, last := range []impl.Event{
		{Kind: evData, At: at(1, 1), Data: "x y"}, {Kind: evData, At: at(2, 60)}, {Kind: evData, At: 7, Data: " "}, {Kind: evHole, At: at(1, 2)}, {Kind: evLoss, At: at(30, 60)}, {Kind: evEra, At: 31}, {Kind: evEra, At: -4}, {Kind: evTrim, At: 0}, {}, {Kind: 6, Data: "x"}, {Kind: -1, At: at(1, 1)},
	} {
		for size := range 4 {
			for reader := range 2 {
				w := changedWorld(twoWorld(), func(w *impl.World) { w.Readers[reader].Out = append(someEvents(size), last) })
				checkSays(t, w, eventIs(last), "out "+strconv.Itoa(reader))
				checkSays(t, w, "none", "out "+strconv.Itoa(1-reader))
			}
		}
	}
}

// Each code that is told of a world that is right; bad is told of the others.
func TestWorldLineCodes(t *testing.T) {
	w := twoWorld()
	checkMoves(t, w, "lose 1", func(w *impl.World) { w.Lost = []int{1} })
	checkMoves(t, w, "add 1 x y", func(w *impl.World) {
		w.Writers[1].Words = append(w.Writers[1].Words, openWord("x y"))
		w.Sent = append(w.Sent, impl.Sent{At: at(2, 2), Data: "x y"})
	})
	checkMoves(t, w, "add 1 ", func(w *impl.World) {
		w.Writers[1].Words = append(w.Writers[1].Words, openWord(""))
		w.Sent = append(w.Sent, impl.Sent{At: at(2, 2)})
	})
	checkMoves(t, w, "store 0 2 1", func(w *impl.World) { w.Stores[1].Late = []impl.Entry{{At: at(1, 2), Data: "b"}} })
	checkMoves(t, w, "trim e2.60", func(w *impl.World) { w.Register.Trim = at(2, 60) })
	checkMoves(t, w, "drop 0", func(w *impl.World) { w.Writers = w.Writers[1:] })
	checkMoves(t, w, "mend", func(w *impl.World) { w.Mends = []impl.Mend{{By: 2, Epoch: 1}} })
	checkSays(t, w, "none", "sync 4", "sync 9999999999", "add 2 x", "store 0 3 0", "store 0 1 3", "fill 0", "seal 0", "plan", "close", "fix 1 1", "read 2 255", "drop 2")
	checkSays(t, lostWorld(), "lost", "sync 2", "crash 2 0", "lose 2", "store 0 1 2", "seal 2", "prune 2")
	checkSays(t, w, "refused", "open 0", "open 1", "open 9999999999", "crash 1 1048576", "crash 1 9999999999", "trim e3.1", "trim e30.60", "prune 0")
	checkSays(t, w, "wait", "read 0 255", "read 1 0")
	checkSays(t, mendWorld(), "wait", "close")
	checkSays(t, w, "what", "help", "sync", "sync 4 4", "sync 04", "sync -1", "sync 12345678901", "add 0", "add 0 x\n", "add 0 "+strings.Repeat("x", mostData+1), "trim 4294967297", "trim e0.1", "fix 1", "Mend", " mend", "mend ", "wait", "bad")
}

// Each line at each of these worlds, against the model; what is not done leaves all as it was.
func TestWorldLineGrid(t *testing.T) {
	t.Parallel()
	said := map[string]int{}
	for _, w := range slices.Concat(deedWorlds(), someWorlds()[:20], []impl.World{faultyWorld(0), faultyWorld(31), leftWorld(t)}) {
		lines := someLines()
		for _, d := range fewDeeds() {
			if line, ok := lineIs(d); ok {
				lines = append(lines, line)
			}
		}
		for _, line := range lines {
			got, told := checkWorldLine(t, w, line)
			if told != "ok" && !sameWorld(got, w) {
				t.Fatalf("%s tells %s, and turned %s", short(line), told, whole(w))
			}
			said[told]++
		}
	}
	for _, told := range strings.Fields("ok bad none lost refused wait what yes no") {
		if said[told] < 5 {
			t.Errorf("%s was told %d times", told, said[told])
		}
	}
}

// A line of a deed is that deed, and no other.
func TestWorldLineDeeds(t *testing.T) {
	for seed := range 12 {
		drawn := rand.New(rand.NewSource(int64(seed)))
		w := emptyWorld(deedConfigs()[seed%6])
		for range 200 {
			d := mixedStep(drawn, w)
			line, ok := lineIs(d)
			if !ok {
				continue
			}
			got, said := checkWorldLine(t, w, line)
			want, code := impl.WorldDo(w, d)
			if !sameWorld(got, want) || said != []string{"ok", "bad", "none", "lost", "refused", "wait"}[code] {
				t.Fatalf("%s of %s: %s, %s; want %d, %s", line, whole(w), said, whole(got), code, whole(want))
			}
			checkDeedTurn(t, w, d, got, code)
			w = got
		}
	}
}

// sessionIs is what Session must answer, by a model of the tests' own: it goes from byte to byte.
func sessionIs(c impl.Config, text string) (string, int) {
	if !isConfig(c) || len(text) > mostText {
		return "", tooMuch
	}
	var lines []string
	from := 0
	for i := range len(text) {
		if text[i] == 10 {
			lines = append(lines, text[from:i])
			from = i + 1
		}
	}
	if from < len(text) {
		lines = append(lines, text[from:])
	}
	if len(lines) > mostDeeds {
		return "", tooManyLines
	}
	w, told := emptyWorld(c), ""
	for _, line := range lines {
		next, said := deedsBy(impl.WorldDo).worldLine(w, line)
		w = next
		if len(said) > 0 {
			told += said + "\n"
		}
	}
	return told, len(lines)
}

// lineByLine is what WorldLine tells of these, from a new world on.
func lineByLine(c impl.Config, lines []string) string {
	w, _ := impl.WorldNew(c)
	told := ""
	for _, line := range lines {
		next, said := impl.WorldLine(w, line)
		w = next
		if said != "" {
			told += said + "\n"
		}
	}
	return told
}

func checkSession(t *testing.T, c impl.Config, text string) (string, int) {
	t.Helper()
	told, count := impl.Session(c, text)
	if want, wantCount := sessionIs(c, text); told != want || count != wantCount {
		t.Fatalf("Session of %s, %s: %s, %d; want %s, %d", shown(c), short(text), short(told), count, short(want), wantCount)
	}
	return told, count
}

// checkTells is as the document has it, and not by the model.
func checkTells(t *testing.T, c impl.Config, text string, want string, wantCount int) {
	t.Helper()
	if told, count := checkSession(t, c, text); told != want || count != wantCount {
		t.Fatalf("Session of %s, %s: %s, %d; want %s, %d", shown(c), short(text), short(told), count, short(want), wantCount)
	}
}

func TestSessionKnown(t *testing.T) {
	c := conf(2, 0, 1)
	lines := []string{"add 0 x", "open 3", "add 0 x y", "# a remark", "", "store 0 1 0", "sync 0", "read 0 255", "store 0 1 1", "sync 1", "out 0", "read 0 255", "out 0", "out 1", "lose 1", "sync 1", "judge", "fill 1", "trim e1.1", "read 1 3", "out 1", "help", "open 2"}
	want := "none\nok\nok\nok\nok\nwait\nok\nok\nnone\nok\ndata e1.1 x y\nnone\nok\nlost\nyes\nok\nok\nok\ntrim e1.1\nwhat\nrefused\n"
	checkTells(t, c, strings.Join(lines, "\n"), want, len(lines))
	checkTells(t, c, strings.Join(lines, "\n")+"\n", want, len(lines))
	checkTells(t, c, strings.Join(lines, "\n")+"\n\n", want, len(lines)+1)
	if got := lineByLine(c, lines); got != want {
		t.Errorf("%q", got)
	}
}

// An epoch is left and mended: all sixteen kinds, and every event but a loss.
func TestSessionMend(t *testing.T) {
	lines := []string{
		"open 7", "add 0 a", "store 0 1 0", "store 0 1 1", "sync 0", "sync 1", "add 0 b", "add 0 c", "store 0 3 2", "crash 2 1", "store 0 3 0", "crash 0 0", "open 7", "close", "mend", "mend", "seal 0", "plan", "seal 2", "seal 1", "plan", "fix 1 0", "fix 2 0", "fix 3 0", "fix 4 0", "sync 0", "close",
		"fix 1 1", "fix 2 1", "fix 3 1", "sync 1", "close", "read 0 7", "out 0", "read 0 7", "out 0", "read 0 7", "out 0", "read 0 7", "out 0", "read 0 7", "drop 0", "lose 1", "fill 1", "trim e1.2", "prune 0", "read 1 7", "out 1", "read 1 0", "read 1 5", "out 1", "judge",
	}
	want := strings.ReplaceAll("ok ok ok ok ok ok ok ok ok ok ok ok ok none ok refused ok refused ok ok ok ok ok ok none ok wait ok ok ok ok ok ok data_e1.1_a ok hole_e1.2 ok data_e1.3_c ok era_2 wait ok ok ok ok ok ok trim_e1.2 wait ok data_e1.3_c yes ", " ", "\n")
	checkTells(t, conf(2, 0, 1, 2), strings.Join(lines, "\n"), strings.ReplaceAll(want, "_", " "), len(lines))
}

func TestSessionLines(t *testing.T) {
	c := conf(1, 0)
	for _, one := range []struct {
		text, told string
		count      int
	}{
		{"", "", 0}, {"\n", "", 1}, {"\n\n", "", 2}, {"\n\n\n", "", 3}, {"#", "", 1}, {"#\n", "", 1}, {"# x\n#\n\n", "", 3}, {"\n#", "", 2},
		{"judge", "yes\n", 1}, {"judge\n", "yes\n", 1}, {"judge\n\n", "yes\n", 2}, {"\njudge", "yes\n", 2}, {"\n\njudge\n\njudge", "yes\nyes\n", 5}, {"#\njudge\n#\n#", "yes\n", 4},
		{"x", "what\n", 1}, {" ", "what\n", 1}, {" \n", "what\n", 1}, {"\n ", "what\n", 2}, {"judge\r\njudge\r\n", "what\nwhat\n", 2}, {"judge\rjudge", "what\n", 1}, {"\r\n", "what\n", 1}, {"judge\x00", "what\n", 1}, {"out 0\nout 1", "none\nnone\n", 2},
		{"open 1", "ok\n", 1}, {"open 1\nadd 0 ", "ok\nok\n", 2}, {"open 1\nadd 0", "ok\nwhat\n", 2}, {"open 1\nadd 0 \n", "ok\nok\n", 2}, {"open 1\nadd 0\n ", "ok\nwhat\nwhat\n", 3}, {"open 1\nadd 0 x\ny", "ok\nok\nwhat\n", 3},
		{"open 1\nadd 0  x \nstore 0 1 0\nsync 0\nread 0 1\nout 0", "ok\nok\nok\nok\nok\ndata e1.1  x \n", 6}, {"open 1\nadd 0 \nstore 0 1 0\nsync 0\nread 0 1\nout 0", "ok\nok\nok\nok\nok\ndata e1.1\n", 6},
		{"open 1\nadd 0  \nstore 0 1 0\nsync 0\nread 0 1\nout 0", "ok\nok\nok\nok\nok\ndata e1.1  \n", 6},
	} {
		checkTells(t, c, one.text, one.told, one.count)
	}
}

// The limits, and which comes first: of a text that is too long, or a config that is none, no lines are counted.
func TestSessionLimits(t *testing.T) {
	c := conf(1, 0)
	for size := mostText - 2; size <= mostText+3; size++ {
		for text, lines := range map[string]int{"#" + strings.Repeat("x", size-1): 1, "#" + strings.Repeat("x", size-2) + "\n": 1, "judge\n#" + strings.Repeat("x", size-7): 2, "#" + strings.Repeat("\u00e4", (size-1)/2) + strings.Repeat("x", (size-1)%2): 1} {
			want := strings.Repeat("yes\n", lines-1)
			if size > mostText {
				want, lines = "", tooMuch
			}
			if len(text) != size {
				t.Fatalf("%d bytes, not %d", len(text), size)
			}
			checkTells(t, c, text, want, lines)
		}
	}
	for size := mostDeeds - 1; size <= mostDeeds+3; size++ {
		for _, line := range []string{"", "#", "judge", "x"} {
			for _, last := range []string{"", "\n", "\n#", "\njudge"} {
				text := strings.Repeat(line+"\n", size-1) + line + last
				count := len(strings.SplitAfter(text, "\n"))
				if strings.HasSuffix(text, "\n") || text == "" {
					count--
				}
				told, got := checkSession(t, c, text)
				if count > mostDeeds && (told != "" || got != tooManyLines) || count <= mostDeeds && got != count {
					t.Fatalf("%d lines: %s, %d", count, short(told), got)
				}
			}
		}
	}
	most := strings.Repeat("#"+strings.Repeat("x", 98)+"\n", mostDeeds)
	checkTells(t, c, most, "", mostDeeds)
	checkTells(t, c, most+"x", "", tooMuch)
	checkTells(t, c, most[1:]+"x", "", tooManyLines)
	checkTells(t, c, strings.Repeat("\n", mostText), "", tooManyLines)
	checkTells(t, c, strings.Repeat("\n", mostText+1), "", tooMuch)
	checkTells(t, c, strings.Repeat("\n", 1<<20), "", tooMuch)
	for _, bad := range badConfigs() {
		for _, text := range []string{"", "\n", "judge", strings.Repeat("\n", mostDeeds), strings.Repeat("\n", mostDeeds+1), strings.Repeat("x", mostText+1), strings.Repeat("\n", mostText+1)} {
			checkTells(t, bad, text, "", tooMuch)
		}
	}
}

func TestSessionConfigs(t *testing.T) {
	for _, c := range slices.Concat(someConfigs(), registerConfigs(), unheldConfigs()) {
		mask := strconv.Itoa(1<<len(c.Domains) - 1)
		told, count := checkSession(t, c, "open "+mask+"\nadd 0 x\nstore 0 1 0\nsync 0\nread 1 "+mask+"\nout 1\njudge\n")
		if count != 7 || isHeld(c, nodesUpTo(len(c.Domains))) != strings.HasPrefix(told, "ok\nok\nok\nok\n") {
			t.Fatalf("%v: %s, %d", c, short(told), count)
		}
	}
}

// drawnLines are mostly of deeds that bring things on; between them are others of all sorts.
func drawnLines(drawn *rand.Rand, c impl.Config, size int) []string {
	w := emptyWorld(c)
	var lines []string
	for len(lines) < size {
		d := nextStep(drawn, w)
		if drawn.Intn(5) == 0 {
			d = drawnDeed(drawn, w)
		}
		line, _ := lineIs(d)
		switch drawn.Intn(12) {
		case 0:
			line = someLines()[drawn.Intn(len(someLines()))]
		case 1:
			line = nearLine(drawn, line)
		case 2, 3:
			line = []string{"judge", "out 0", "out 1"}[drawn.Intn(3)]
		}
		line = strings.ReplaceAll(line, "\n", "?")
		w, _ = impl.WorldLine(w, line)
		lines = append(lines, line)
	}
	return lines
}

// A session tells what WorldLine tells, line by line.
func TestSessionDrawn(t *testing.T) {
	t.Parallel()
	said := map[string]int{}
	for seed := range 90 {
		drawn := rand.New(rand.NewSource(int64(seed)))
		c := deedConfigs()[seed%6]
		lines := drawnLines(drawn, c, drawn.Intn(mostDeeds)+1)
		told, count := checkSession(t, c, strings.Join(lines, "\n")+"\n")
		if want := lineByLine(c, lines); told != want || count != len(lines) {
			t.Fatalf("%d: %s, %d; line by line %s, %d", seed, short(told), count, short(want), len(lines))
		}
		for line := range strings.Lines(told) {
			said[strings.Fields(line)[0]]++
		}
		// What is told of some lines stays so, whatever comes behind them.
		half := len(lines) / 2
		if first, _ := checkSession(t, c, strings.Join(lines[:half], "\n")); !strings.HasPrefix(told, first) {
			t.Fatalf("%d: of half of it %s, of all %s", seed, short(first), short(told))
		}
	}
	for _, word := range strings.Fields("ok none lost refused wait what yes data era") {
		if said[word] < 10 {
			t.Errorf("%s was told %d times", word, said[word])
		}
	}
	if said["no"] > 0 || said["bad"] > 0 {
		t.Errorf("%v", said)
	}
}

// Lines that ask, and those that count alone, change nothing: without them the others tell the same.
func TestSessionAskingTurnsNothing(t *testing.T) {
	for seed := range 30 {
		drawn := rand.New(rand.NewSource(int64(seed)))
		c := deedConfigs()[seed%6]
		lines := drawnLines(drawn, c, 90)
		var doing, doingTold []string
		w := emptyWorld(c)
		for _, line := range lines {
			next, said := impl.WorldLine(w, line)
			if said != "ok" && !sameWorld(next, w) {
				t.Fatalf("%s tells %s, and turned %s", short(line), said, whole(w))
			}
			if w = next; said == "ok" {
				doing, doingTold = append(doing, line), append(doingTold, "ok\n")
			}
		}
		checkTells(t, c, strings.Join(doing, "\n"), strings.Join(doingTold, ""), len(doing))
		again := emptyWorld(c)
		for _, line := range doing {
			again, _ = impl.WorldLine(again, line)
		}
		if !sameWorld(again, w) {
			t.Fatalf("%d: %s, not %s", seed, whole(again), whole(w))
		}
	}
}

// liesWithin is so where s is a piece of the memory of other.
func liesWithin(s string, other string) bool {
	if s == "" || other == "" {
		return false
	}
	from, at := uintptr(unsafe.Pointer(unsafe.StringData(other))), uintptr(unsafe.Pointer(unsafe.StringData(s)))
	return at < from+uintptr(len(other)) && from < at+uintptr(len(s))
}

func TestDeskWritesNothing(t *testing.T) {
	for _, w := range deedWorlds() {
		laid := layDown(w)
		before := laid.look()
		all := memoryOf(laid.wholes...)
		for _, line := range someLines() {
			got, said := impl.WorldLine(laid.given, line)
			if !laid.isStill(before) {
				t.Fatalf("%s wrote into what it was given: %s", short(line), whole(w))
			}
			if list := memoryOf(got); shareMemory(list, all) || !areApart(list) {
				t.Fatalf("%s answers what it was given, or one thing twice: %s", short(line), whole(w))
			}
			if want, wantSaid := deedsBy(impl.WorldDo).worldLine(w, line); said != wantSaid || !sameWorld(got, want) {
				t.Fatalf("%s of %s: %s", short(line), whole(w), said)
			}
		}
	}
	for _, c := range append(someConfigs(), badConfigs()...) {
		laid := layDown(c)
		before := laid.look()
		told, count := impl.Session(laid.given, "open 1\nadd 0 x\njudge")
		if want, wantCount := sessionIs(c, "open 1\nadd 0 x\njudge"); !laid.isStill(before) || told != want || count != wantCount {
			t.Fatalf("Session of %s: %s, %d", shown(c), short(told), count)
		}
	}
}

func TestDeskTextIsNew(t *testing.T) {
	line := strings.Clone("add 0 some text")
	d, _ := impl.DeedParse(line)
	if liesWithin(d.Text, line) || d.Text != "some text" {
		t.Error("the text is a piece of the line")
	}
	w, _ := impl.WorldLine(twoWorld(), line)
	if text := w.Writers[0].Words[2].Data; liesWithin(text, line) || text != "some text" {
		t.Error("the word is a piece of the line")
	}
	if written, _ := impl.DeedLine(d); liesWithin(d.Text, written) {
		t.Error("the line has the text as it lies")
	}
	e := impl.Event{Kind: evData, At: at(1, 1), Data: strings.Clone("some data")}
	if liesWithin(e.Data, impl.EventText(e)) {
		t.Error("what is told has the data as it lies")
	}
}

// Two answers share nothing, and an answer stays as it was told, whatever is done to the arguments afterwards.
func TestDeskSharesNothing(t *testing.T) {
	for _, w := range deedWorlds() {
		for _, line := range someLines() {
			laid := layDown(w)
			one, _ := impl.WorldLine(laid.given, line)
			two, said := impl.WorldLine(laid.given, line)
			if shareMemory(memoryOf(one), memoryOf(two)) {
				t.Fatalf("two answers of %s share memory", short(line))
			}
			laid.spoil()
			spoilAll(one)
			if want, wantSaid := deedsBy(doIs).worldLine(w, line); said != wantSaid || !sameWorld(two, want) {
				t.Fatalf("%s of %s became %s", short(line), whole(w), whole(two))
			}
		}
	}
}

// From one world several lines may go on: none sees what is done by another.
func TestDeskForked(t *testing.T) {
	for _, w := range deedWorlds()[:10] {
		before := deepCopy(w)
		var got, want []impl.World
		for _, line := range someLines() {
			next, _ := impl.WorldLine(w, line)
			got, want = append(got, next), append(want, deepCopy(next))
			for _, d := range fewDeeds()[:20] {
				if other, ok := lineIs(d); ok {
					impl.WorldLine(next, other)
				}
			}
		}
		if !slices.EqualFunc(got, want, sameWorld) || !sameWorld(w, before) {
			t.Fatalf("a world was turned: %s", whole(before))
		}
	}
}

// Nothing is kept from call to call: an answer is the same whatever was asked ahead of it, a bad line too, and by many at once.
func TestDeskAgain(t *testing.T) {
	lines, worlds := someLines(), deedWorlds()
	config := conf(2, 0, 1, 2)
	session := drawnLines(rand.New(rand.NewSource(7)), config, 60)
	text := strings.Join(session, "\n")
	told := lineByLine(config, session)
	ask := func(drawn *rand.Rand) {
		for _, i := range drawn.Perm(len(lines) * len(worlds)) {
			line, w := lines[i%len(lines)], worlds[i/len(lines)]
			if drawn.Intn(2) == 0 {
				impl.DeedParse("no line " + line)
			}
			d, ok := impl.DeedParse(line)
			if want, wantOk := parseIs(line); d != want || ok != wantOk {
				t.Errorf("DeedParse(%s): %+v, %v", short(line), d, ok)
			}
			if back, isLine := impl.DeedLine(d); isLine != ok || ok && back != line {
				t.Errorf("DeedLine(%+v): %s, %v", d, short(back), isLine)
			}
			if drawn.Intn(6) == 0 {
				got, said := impl.WorldLine(w, line)
				if want, wantSaid := deedsBy(impl.WorldDo).worldLine(w, line); said != wantSaid || !sameWorld(got, want) {
					t.Errorf("WorldLine of %s, %s: %s", whole(w), short(line), short(said))
				}
			}
			if drawn.Intn(100) == 0 {
				if got, count := impl.Session(config, text); got != told || count != len(session) {
					t.Errorf("Session: %s, %d", short(got), count)
				}
			}
		}
	}
	var all sync.WaitGroup
	for seed := range 4 {
		all.Add(1)
		go func() {
			defer all.Done()
			ask(rand.New(rand.NewSource(int64(seed))))
		}()
	}
	all.Wait()
	ask(rand.New(rand.NewSource(9)))
}
