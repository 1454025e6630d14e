package tests

import (
	"fmt"
	"math"
	"math/rand"
	"slices"
	"strings"
	"testing"

	"loop.example/g00178/impl"
)

// The document's number, written out here so that a changed constant is seen.
const mostOpen = 6

func openWord(data string, acks ...int) impl.Word {
	return impl.Word{Data: data, Acks: acks}
}

func doneWord(data string, acks ...int) impl.Word {
	return impl.Word{Data: data, Acks: acks, Done: true}
}

func writerWith(epoch int, words ...impl.Word) impl.Writer {
	return impl.Writer{Epoch: epoch, Words: words}
}

// isWriter is what WriterOk must answer, by a model of the tests' own.
func isWriter(c impl.Config, w impl.Writer) bool {
	if !isConfig(c) || w.Epoch < 1 || w.Epoch > lastEpoch || len(w.Words) > lastOff || openOf(w) > mostOpen {
		return false
	}
	for _, x := range w.Words {
		if len(x.Data) > mostData || !areNodes(c, x.Acks) || isHeld(c, x.Acks) != x.Done {
			return false
		}
	}
	return true
}

func openOf(w impl.Writer) int {
	open := 0
	for _, x := range w.Words {
		if !x.Done {
			open++
		}
	}
	return open
}

func cloneWriter(w impl.Writer) impl.Writer {
	own := impl.Writer{Epoch: w.Epoch}
	for _, x := range w.Words {
		own.Words = append(own.Words, impl.Word{Data: x.Data, Acks: append([]int(nil), x.Acks...), Done: x.Done})
	}
	return own
}

func sameWord(a impl.Word, b impl.Word) bool {
	return a.Data == b.Data && a.Done == b.Done && slices.Equal(a.Acks, b.Acks)
}

func sameWriter(a impl.Writer, b impl.Writer) bool {
	return a.Epoch == b.Epoch && slices.EqualFunc(a.Words, b.Words, sameWord)
}

// writerAsItWas is what must be answered where a change is refused.
func writerAsItWas(c impl.Config, w impl.Writer) impl.Writer {
	if !isWriter(c, w) {
		return impl.Writer{}
	}
	return cloneWriter(w)
}

func addIs(c impl.Config, w impl.Writer, data string) (impl.Writer, int, bool) {
	if !isWriter(c, w) || len(data) > mostData || len(w.Words) >= lastOff || openOf(w) >= mostOpen {
		return writerAsItWas(c, w), 0, false
	}
	next := cloneWriter(w)
	next.Words = append(next.Words, openWord(data))
	return next, len(w.Words) + 1, true
}

// ackIs counts the nodes through, and takes each that was there or is told now.
func ackIs(c impl.Config, w impl.Writer, off int, node int) (impl.Writer, int, bool) {
	if !isWriter(c, w) || node < 0 || node >= len(c.Domains) || off < 1 || off > len(w.Words) || w.Words[off-1].Done {
		return writerAsItWas(c, w), 0, false
	}
	next := cloneWriter(w)
	var acks []int
	for n := range c.Domains {
		if n == node || slices.Contains(w.Words[off-1].Acks, n) {
			acks = append(acks, n)
		}
	}
	next.Words[off-1].Acks, next.Words[off-1].Done = acks, isHeld(c, acks)
	return next, 0, true
}

func forgetIs(c impl.Config, w impl.Writer, node int) (impl.Writer, int, bool) {
	if !isWriter(c, w) {
		return impl.Writer{}, 0, false
	}
	next := cloneWriter(w)
	for i, x := range w.Words {
		if x.Done {
			continue
		}
		next.Words[i].Acks = nil
		for _, n := range x.Acks {
			if n != node {
				next.Words[i].Acks = append(next.Words[i].Acks, n)
			}
		}
	}
	return next, 0, true
}

// sureIs tries every number, and takes the greatest one.
func sureIs(w impl.Writer) int {
	sure := 0
	for upto := 1; upto <= len(w.Words); upto++ {
		if openOf(impl.Writer{Words: w.Words[:upto]}) == 0 {
			sure = upto
		}
	}
	return sure
}

// writerAsk is one thing that is asked of a writer, with what must be answered; the number is WriterAdd's offset, and 0 of the others.
type writerAsk struct {
	name string
	ask  func(impl.Config, impl.Writer) (impl.Writer, int, bool)
	want func(impl.Config, impl.Writer) (impl.Writer, int, bool)
}

func askAdd(data string) writerAsk {
	return writerAsk{
		fmt.Sprintf("WriterAdd %.40q of %d bytes", data, len(data)),
		func(c impl.Config, w impl.Writer) (impl.Writer, int, bool) { return impl.WriterAdd(c, w, data) },
		func(c impl.Config, w impl.Writer) (impl.Writer, int, bool) { return addIs(c, w, data) },
	}
}

func askAck(off int, node int) writerAsk {
	return writerAsk{
		fmt.Sprintf("WriterAck %d by %d", off, node),
		func(c impl.Config, w impl.Writer) (impl.Writer, int, bool) {
			next, ok := impl.WriterAck(c, w, off, node)
			return next, 0, ok
		},
		func(c impl.Config, w impl.Writer) (impl.Writer, int, bool) { return ackIs(c, w, off, node) },
	}
}

func askForget(node int) writerAsk {
	return writerAsk{
		fmt.Sprintf("WriterForget %d", node),
		func(c impl.Config, w impl.Writer) (impl.Writer, int, bool) {
			next, ok := impl.WriterForget(c, w, node)
			return next, 0, ok
		},
		func(c impl.Config, w impl.Writer) (impl.Writer, int, bool) { return forgetIs(c, w, node) },
	}
}

func (a writerAsk) check(t *testing.T, c impl.Config, w impl.Writer) {
	t.Helper()
	want, wantOff, wantOk := a.want(c, w)
	if got, off, ok := a.ask(c, w); ok != wantOk || off != wantOff || !sameWriter(got, want) {
		t.Fatalf("%s of %v, %v: %v, %d, %v; want %v, %d, %v", a.name, c, w, got, off, ok, want, wantOff, wantOk)
	}
}

// refuses asks for w as it was, as the document has it, and not by a model.
func (a writerAsk) refuses(t *testing.T, c impl.Config, w impl.Writer) {
	t.Helper()
	if got, off, ok := a.ask(c, w); ok || off != 0 || !sameWriter(got, w) {
		t.Fatalf("%s of %v, %v: %v, %d, %v; want it as it was", a.name, c, w, got, off, ok)
	}
}

func (a writerAsk) refusesWholly(t *testing.T, c impl.Config, w impl.Writer) {
	t.Helper()
	if got, off, ok := a.ask(c, w); ok || off != 0 || !sameWriter(got, impl.Writer{}) {
		t.Fatalf("%s of %v, %v: %v, %d, %v; want zero", a.name, c, w, got, off, ok)
	}
}

// answers asks for one writer that must be answered.
func (a writerAsk) answers(t *testing.T, c impl.Config, w impl.Writer, want impl.Writer, wantOff int) {
	t.Helper()
	if got, off, ok := a.ask(c, w); !ok || off != wantOff || !sameWriter(got, want) {
		t.Fatalf("%s of %v, %v: %v, %d, %v; want %v, %d", a.name, c, w, got, off, ok, want, wantOff)
	}
}

// writerConfigs all have lists that hold; in those of unheldConfigs nothing does, as they have too few domains.
func writerConfigs() []impl.Config {
	return []impl.Config{conf(2, 0, 0, 1, 2), conf(1, 5), conf(4, 7, 6, 5, 4, 3, 2, 1, 0), conf(3, 0, 0, 1, 1, 2), conf(2, 3, 3, 3, 4)}
}

func unheldConfigs() []impl.Config {
	return []impl.Config{conf(4, 0, 1, 2), conf(2, 3, 3, 3), conf(2, 1)}
}

// writerOf has a word for each letter of row: d is Done, o is not; what they have is taken in turn.
func writerOf(c impl.Config, epoch int, row string) impl.Writer {
	held, unheld, data := heldLists(c), unheldLists(c), someData()
	w := impl.Writer{Epoch: epoch}
	for i, letter := range row {
		word := openWord(data[(i*3+epoch)%len(data)])
		if letter == 'd' {
			word.Acks, word.Done = slices.Clone(held[(i*5+epoch)%len(held)]), true
		} else {
			word.Acks = slices.Clone(unheld[(i*3+len(row))%len(unheld)])
		}
		w.Words = append(w.Words, word)
	}
	return w
}

// doneRow is of that many, in which those of the offsets open are not Done.
func doneRow(size int, open ...int) string {
	row := []byte(strings.Repeat("d", size))
	for _, off := range open {
		row[off-1] = 'o'
	}
	return string(row)
}

// someRows has rows that are right: of no, few and the most words, with no, few and the most that are not Done.
func someRows() []string {
	return []string{
		"", "o", "d", "oo", "od", "do", "dd", "ooo", "dod", "ooooo", "oooooo", "ddddddd", "doooooo", "ooooood", "ooodooo", "dododododod", "ododododododd",
		doneRow(30), doneRow(30, 30), doneRow(30, 1, 15), doneRow(lastOff - 1), doneRow(lastOff-1, 59), doneRow(lastOff-1, 1, 2, 3, 4, 5), doneRow(lastOff-1, 1, 12, 23, 34, 45, 59),
		doneRow(lastOff), doneRow(lastOff, 1), doneRow(lastOff, 60), doneRow(lastOff, 55, 56, 57, 58, 59), doneRow(lastOff, 1, 2, 3, 4, 5, 6), doneRow(lastOff, 1, 13, 25, 37, 49, 60), doneRow(lastOff, 55, 56, 57, 58, 59, 60),
	}
}

func someWriters(c impl.Config) []impl.Writer {
	list := []impl.Writer{{Epoch: 1}, {Epoch: lastEpoch, Words: []impl.Word{}}}
	for i, row := range someRows() {
		list = append(list, writerOf(c, []int{1, lastEpoch, 7, 2, 29}[i%5], row))
	}
	return list
}

// changedWord is w with another word there.
func changedWord(w impl.Writer, i int, change func(*impl.Word)) impl.Writer {
	own := cloneWriter(w)
	change(&own.Words[i])
	return own
}

// badWriters has writers that are not right, each for one reason.
func badWriters(c impl.Config) []impl.Writer {
	whole := writerOf(c, 3, "dodod")
	list := []impl.Writer{
		{}, {Epoch: -1}, {Epoch: lastEpoch + 1}, {Epoch: math.MinInt}, {Epoch: math.MaxInt}, {Epoch: 1<<32 + 1},
		writerOf(c, 0, "do"), writerOf(c, lastEpoch+1, "do"), writerOf(c, 3, doneRow(lastOff+1)), writerOf(c, 3, doneRow(lastOff+1, 61)), writerOf(c, 3, doneRow(300)),
		writerOf(c, 3, "ooooooo"), writerOf(c, 3, "doooodooo"), writerOf(c, 3, doneRow(lastOff, 1, 2, 3, 4, 5, 6, 7)), writerOf(c, 3, doneRow(lastOff, 1, 10, 20, 30, 40, 50, 60)), writerOf(c, 3, strings.Repeat("o", 60)),
	}
	held := heldLists(c)[0]
	for i, x := range whole.Words {
		list = append(list, changedWord(whole, i, func(x *impl.Word) { x.Done = !x.Done }), changedWord(whole, i, func(x *impl.Word) { x.Data = strings.Repeat("x", mostData+1) }))
		for _, acks := range [][]int{{len(c.Domains)}, {1, 0}, {0, 0}, {-1}, {0, len(c.Domains)}, append(nodesUpTo(len(c.Domains)), 0)} {
			list = append(list, changedWord(whole, i, func(x *impl.Word) { x.Acks = acks }))
		}
		if x.Done {
			list = append(list, changedWord(whole, i, func(x *impl.Word) { x.Acks = nil }))
		} else {
			list = append(list, changedWord(whole, i, func(x *impl.Word) { x.Acks = held }))
		}
	}
	return list
}

// wrongOffs are of no word, whatever a writer that is right has.
func wrongOffs() []int {
	return []int{math.MinInt, math.MinInt + 1, -epochStep, -epochStep + 1, -61, -60, -1, 0, lastOff + 1, lastOff + 2, 256, 257, epochStep, epochStep + 1, at(1, 1), math.MaxInt - 1, math.MaxInt}
}

// writerAsks has some of each kind, of which some are refused by every writer, and some only by some.
func writerAsks(c impl.Config) []writerAsk {
	var list []writerAsk
	for _, data := range slices.Concat(someData(), tooMuchData()) {
		list = append(list, askAdd(data))
	}
	size := len(c.Domains)
	nodes := []int{math.MinInt, -1, 0, 1, size - 1, size, size + 1, 256, 1 << 32, math.MaxInt}
	for _, off := range append(wrongOffs(), 1, 2, 3, 6, 7, 30, 59, 60) {
		for _, node := range nodes {
			list = append(list, askAck(off, node))
		}
	}
	for _, node := range append(nodes, nodesUpTo(mostNodes+1)...) {
		list = append(list, askForget(node))
	}
	return list
}

func checkWriterOk(t *testing.T, c impl.Config, w impl.Writer, want bool) {
	t.Helper()
	if impl.WriterOk(c, w) != want || isWriter(c, w) != want {
		t.Fatalf("WriterOk(%v, %v) is not %v", c, w, want)
	}
}

func TestWriterLimit(t *testing.T) {
	if impl.MaxOpen != mostOpen {
		t.Errorf("MaxOpen is %d", impl.MaxOpen)
	}
}

func TestWriterOkConfig(t *testing.T) {
	some := someWriters(conf(1, 0, 1))
	for _, c := range badConfigs() {
		for _, w := range append(some, writerWith(1, openWord("")), writerWith(1, doneWord("")), writerWith(1, doneWord("", 0))) {
			checkWriterOk(t, c, w, false)
		}
	}
	for _, c := range someConfigs() {
		all := nodesUpTo(len(c.Domains))
		checkWriterOk(t, c, writerWith(1), true)
		checkWriterOk(t, c, writerWith(1, openWord("x")), true)
		checkWriterOk(t, c, writerWith(1, doneWord("x", all...)), isHeld(c, all))
		checkWriterOk(t, c, writerWith(1, openWord("x", all...)), !isHeld(c, all))
	}
	// What is right at one config need not be so at another.
	w := writerWith(1, doneWord("x", 0, 2), openWord("y", 0, 1))
	checkWriterOk(t, conf(2, 0, 0, 1, 2), w, true)
	checkWriterOk(t, conf(2, 0, 1, 0, 2), w, false)
	checkWriterOk(t, conf(3, 0, 0, 1, 2), w, false)
	checkWriterOk(t, conf(1, 0, 0, 1, 2), w, false)
	checkWriterOk(t, conf(2, 0, 0), w, false)
}

func TestWriterOkEpoch(t *testing.T) {
	for _, c := range slices.Concat(writerConfigs(), unheldConfigs()) {
		for _, epoch := range append(someWaves(), at(1, 1), 1<<32+1, 1<<16+1) {
			want := epoch >= 1 && epoch <= lastEpoch
			checkWriterOk(t, c, impl.Writer{Epoch: epoch}, want)
			w := writerOf(c, 5, "oo")
			w.Epoch = epoch
			checkWriterOk(t, c, w, want)
		}
	}
}

func TestWriterOkCounts(t *testing.T) {
	for _, c := range writerConfigs() {
		for size := 0; size <= lastOff+5; size++ {
			checkWriterOk(t, c, writerOf(c, 1, doneRow(size)), size <= lastOff)
			checkWriterOk(t, c, writerOf(c, 1, strings.Repeat("o", size)), size <= mostOpen)
			if size > 0 {
				checkWriterOk(t, c, writerOf(c, 30, doneRow(size, 1)), size <= lastOff)
				checkWriterOk(t, c, writerOf(c, 30, doneRow(size, size)), size <= lastOff)
			}
		}
		for _, size := range []int{120, 127, 128, 255, 256, 257, 316, 1000} {
			checkWriterOk(t, c, writerOf(c, 1, doneRow(size)), false)
			checkWriterOk(t, c, writerOf(c, 1, strings.Repeat("o", size)), false)
		}
	}
	for _, c := range unheldConfigs() {
		for size := 0; size <= mostOpen+3; size++ {
			checkWriterOk(t, c, writerOf(c, 1, strings.Repeat("o", size)), size <= mostOpen)
		}
	}
}

// Every row of up to nine words: at most six of them may be open, wherever they stand.
func TestWriterOkOpenEvery(t *testing.T) {
	c := conf(2, 0, 0, 1, 2)
	for size := range 10 {
		for mask := range 1 << size {
			w := writerWith(4)
			open := 0
			for i := range size {
				if mask>>i&1 == 1 {
					open++
					w.Words = append(w.Words, openWord("x", 0, 1))
				} else {
					w.Words = append(w.Words, doneWord("y", 1, 3))
				}
			}
			checkWriterOk(t, c, w, open <= mostOpen)
		}
	}
}

// The seventh one that is not Done is put at each offset of a long writer.
func TestWriterOkOpenLong(t *testing.T) {
	c := conf(2, 0, 0, 1, 2)
	for _, size := range []int{20, lastOff - 1, lastOff} {
		for off := 1; off <= size; off++ {
			five, six := []int{2, 5, 6, 11, 20}, []int{1, 3, 4, 10, 18, 19}
			checkWriterOk(t, c, writerOf(c, 9, doneRow(size, append(five, off)...)), true)
			checkWriterOk(t, c, writerOf(c, 9, doneRow(size, append(six, off)...)), slices.Contains(six, off))
		}
	}
}

func TestWriterOkData(t *testing.T) {
	c := conf(2, 0, 0, 1, 2)
	for _, row := range []string{"o", "d", "dodo", "oooooo", doneRow(lastOff, 3, 60)} {
		w := writerOf(c, 6, row)
		for i := range w.Words {
			for _, data := range someData() {
				checkWriterOk(t, c, changedWord(w, i, func(x *impl.Word) { x.Data = data }), true)
			}
			for _, data := range tooMuchData() {
				checkWriterOk(t, c, changedWord(w, i, func(x *impl.Word) { x.Data = data }), false)
			}
		}
	}
	for size := 0; size <= mostData+3; size++ {
		checkWriterOk(t, c, writerWith(1, openWord(strings.Repeat("q", size))), size <= mostData)
		checkWriterOk(t, c, writerWith(1, doneWord(strings.Repeat("q", size), 1, 2)), size <= mostData)
	}
}

// Every list of nodes, as Acks of a word that is Done and of one that is not, at each place among others.
func TestWriterOkAcks(t *testing.T) {
	for _, c := range writerConfigs() {
		for _, row := range []string{"o", "dod", doneRow(lastOff-1, 30, 59)} {
			w := writerOf(c, 2, row)
			for _, i := range []int{0, len(row) / 2, len(row) - 1} {
				for mask := range 1 << len(c.Domains) {
					acks := nodesOf(mask)
					checkWriterOk(t, c, changedWord(w, i, func(x *impl.Word) { x.Acks, x.Done = acks, true }), isHeld(c, acks))
					checkWriterOk(t, c, changedWord(w, i, func(x *impl.Word) { x.Acks, x.Done = acks, false }), !isHeld(c, acks))
				}
			}
		}
	}
	for _, c := range unheldConfigs() {
		for mask := range 1 << len(c.Domains) {
			checkWriterOk(t, c, writerWith(3, openWord("", nodesOf(mask)...)), true)
			checkWriterOk(t, c, writerWith(3, doneWord("", nodesOf(mask)...)), false)
		}
	}
}

// What is no list of nodes is wrong whether the word is said to be Done or not.
func TestWriterOkBadAcks(t *testing.T) {
	for _, c := range slices.Concat(writerConfigs(), unheldConfigs()) {
		for _, acks := range wrongLists(c) {
			if areNodes(c, acks) {
				continue
			}
			for _, done := range []bool{false, true} {
				x := impl.Word{Data: "z", Acks: acks, Done: done}
				checkWriterOk(t, c, writerWith(8, x), false)
				checkWriterOk(t, c, writerWith(8, openWord("a"), x), false)
				checkWriterOk(t, c, writerWith(8, x, openWord("a")), false)
			}
		}
	}
}

func TestWriterOkKnown(t *testing.T) {
	c := conf(2, 0, 0, 1, 2)
	for _, row := range []struct {
		word impl.Word
		want bool
	}{
		{doneWord("x", 0, 2), true}, {doneWord("x", 0, 1, 2), true}, {doneWord("", 2, 3), true}, {doneWord("x", 0, 1, 2, 3), true},
		{doneWord("x"), false}, {doneWord("x", 0), false}, {doneWord("x", 0, 1), false}, {doneWord("x", 3), false},
		{openWord("x"), true}, {openWord("x", 0), true}, {openWord("x", 0, 1), true}, {openWord("", 3), true},
		{openWord("x", 0, 2), false}, {openWord("x", 2, 3), false}, {openWord("x", 0, 1, 2, 3), false},
		{doneWord("x", 2, 0), false}, {openWord("x", 1, 0), false}, {openWord("x", 0, 0), false}, {doneWord("x", 0, 2, 2), false},
		{openWord("x", 4), false}, {doneWord("x", 0, 2, 4), false}, {openWord("x", -1), false}, {doneWord("x", -1, 0, 2), false},
	} {
		checkWriterOk(t, c, writerWith(1, row.word), row.want)
		checkWriterOk(t, c, writerWith(30, doneWord("a", 1, 3), row.word, openWord("b")), row.want)
	}
}

func TestWriterOkSome(t *testing.T) {
	for _, c := range writerConfigs() {
		for _, w := range someWriters(c) {
			checkWriterOk(t, c, w, true)
		}
		for _, w := range badWriters(c) {
			checkWriterOk(t, c, w, false)
		}
	}
}

// Whatever is asked of whatever writer: what is answered is what the document says.
func TestWriterAsks(t *testing.T) {
	t.Parallel()
	for _, c := range writerConfigs() {
		right, wrong, few := someWriters(c), badWriters(c), writerOf(c, 3, "dodo")
		for _, a := range writerAsks(c) {
			for _, w := range right {
				a.check(t, c, w)
			}
			for _, w := range wrong {
				a.refusesWholly(t, c, w)
			}
			for _, bad := range badConfigs() {
				a.refusesWholly(t, bad, few)
				a.refusesWholly(t, bad, impl.Writer{Epoch: 1})
			}
		}
	}
	for _, c := range unheldConfigs() {
		for _, a := range writerAsks(c) {
			for _, row := range []string{"", "o", "ooooo", "oooooo"} {
				a.check(t, c, writerOf(c, 3, row))
			}
			a.refusesWholly(t, c, writerOf(c, 3, "ooooooo"))
		}
	}
}

func TestAddKnown(t *testing.T) {
	c := conf(2, 0, 0, 1, 2)
	one := writerWith(7, openWord("x"))
	two := writerWith(7, openWord("x"), openWord(""))
	askAdd("x").answers(t, c, writerWith(7), one, 1)
	askAdd("").answers(t, c, one, two, 2)
	askAdd("x").answers(t, c, one, writerWith(7, openWord("x"), openWord("x")), 2)
	some := writerWith(7, openWord("a", 0, 1), doneWord("b", 1, 2))
	askAdd("c").answers(t, c, some, writerWith(7, openWord("a", 0, 1), doneWord("b", 1, 2), openWord("c")), 3)
	askAdd("\x00\xff").answers(t, c, writerWith(30, doneWord("b", 2, 3)), writerWith(30, doneWord("b", 2, 3), openWord("\x00\xff")), 2)
}

func TestAddData(t *testing.T) {
	for _, c := range writerConfigs() {
		for _, row := range []string{"", "d", "odo", doneRow(lastOff-1, 1, 30, 59)} {
			w := writerOf(c, 4, row)
			for _, data := range someData() {
				want := cloneWriter(w)
				want.Words = append(want.Words, openWord(data))
				askAdd(data).answers(t, c, w, want, len(row)+1)
			}
			for _, data := range tooMuchData() {
				askAdd(data).refuses(t, c, w)
			}
		}
	}
}

// Open words are as many as can be at every length, and one less.
func TestAddOpen(t *testing.T) {
	for _, c := range writerConfigs() {
		for size := mostOpen; size < lastOff; size++ {
			full := doneRow(size, 1, 2, 3, size-2, size-1, size)
			for _, data := range []string{"", "x", strings.Repeat("x", mostData), strings.Repeat("x", mostData+1)} {
				askAdd(data).refuses(t, c, writerOf(c, 5, full))
			}
			w := writerOf(c, 5, doneRow(size, 1, 2, 3, size-1, size))
			want := cloneWriter(w)
			want.Words = append(want.Words, openWord("n"))
			askAdd("n").answers(t, c, w, want, size+1)
			askAdd("n").refuses(t, c, want)
		}
	}
}

// From no word on, one by one; where the window is full, one must be done first.
func TestAddInARow(t *testing.T) {
	for _, c := range append(writerConfigs(), unheldConfigs()...) {
		w := impl.Writer{Epoch: 12}
		for i := range mostOpen {
			next, off, ok := impl.WriterAdd(c, w, fmt.Sprint("word ", i))
			if !ok || off != i+1 || len(next.Words) != i+1 || !sameWord(next.Words[i], openWord(fmt.Sprint("word ", i))) || !impl.WriterOk(c, next) {
				t.Fatalf("the word %d: %v, %d, %v", i, next, off, ok)
			}
			if !slices.EqualFunc(next.Words[:i], w.Words, sameWord) || next.Epoch != 12 {
				t.Fatalf("the word %d turned earlier ones: %v", i, next)
			}
			w = next
		}
		askAdd("").refuses(t, c, w)
		askAdd("more").refuses(t, c, w)
	}
}

// A writer is filled to its end, the oldest open word being made sure by all nodes whenever it must be.
func TestAddToTheEnd(t *testing.T) {
	for _, c := range writerConfigs() {
		w := impl.Writer{Epoch: 30}
		for off := 1; off <= lastOff; off++ {
			if openOf(w) == mostOpen {
				askAdd("x").refuses(t, c, w)
				w = ackedByAll(t, c, w, impl.WriterSure(w)+1)
			}
			next, got, ok := impl.WriterAdd(c, w, "x")
			if !ok || got != off {
				t.Fatalf("the word %d: %d, %v", off, got, ok)
			}
			w = next
		}
		askAdd("x").refuses(t, c, w)
		for off := impl.WriterSure(w) + 1; off <= lastOff; off++ {
			w = ackedByAll(t, c, w, off)
		}
		if impl.WriterSure(w) != lastOff || !impl.WriterOk(c, w) {
			t.Fatalf("at the end it is sure up to %d", impl.WriterSure(w))
		}
		askAdd("x").refuses(t, c, w)
		askAdd("").refuses(t, c, w)
	}
}

// ackedByAll lets node after node tell that the word lasts, until it is done.
func ackedByAll(t *testing.T, c impl.Config, w impl.Writer, off int) impl.Writer {
	t.Helper()
	for n := range c.Domains {
		next, ok := impl.WriterAck(c, w, off, n)
		if ok == w.Words[off-1].Done {
			t.Fatalf("WriterAck(%v, %v, %d, %d): %v", c, w, off, n, ok)
		}
		w = next
	}
	if !w.Words[off-1].Done {
		t.Fatalf("the word %d is not done: %v", off, w)
	}
	return w
}

func TestAddMostWords(t *testing.T) {
	for _, c := range writerConfigs() {
		for _, open := range [][]int{nil, {1}, {59}, {1, 2, 30, 58, 59}} {
			w := writerOf(c, 3, doneRow(lastOff-1, open...))
			want := cloneWriter(w)
			want.Words = append(want.Words, openWord("last"))
			askAdd("last").answers(t, c, w, want, lastOff)
			askAdd("more").refuses(t, c, want)
			askAdd("").refuses(t, c, writerOf(c, 3, doneRow(lastOff, open...)))
			askAdd("").refusesWholly(t, c, writerOf(c, 3, doneRow(lastOff+1, open...)))
		}
	}
}

// Where the writer and the data are both wrong, it is zero all the same.
func TestAddNotWriter(t *testing.T) {
	for _, c := range writerConfigs() {
		for _, w := range badWriters(c) {
			for _, data := range []string{"", "x", strings.Repeat("x", mostData), strings.Repeat("x", mostData+1)} {
				askAdd(data).refusesWholly(t, c, w)
			}
		}
	}
	for _, c := range badConfigs() {
		for _, w := range []impl.Writer{{}, {Epoch: 1}, writerWith(2, openWord("x")), writerWith(2, doneWord("x", 0, 1))} {
			askAdd("").refusesWholly(t, c, w)
			askAdd(strings.Repeat("x", mostData+1)).refusesWholly(t, c, w)
		}
	}
}

func TestAckKnown(t *testing.T) {
	c := conf(2, 0, 0, 1, 2)
	w := writerWith(3, openWord("a"), openWord("b", 0), doneWord("c", 0, 2), openWord("d", 0, 1))
	for _, row := range []struct {
		off, node int
		word      impl.Word
	}{
		{1, 0, openWord("a", 0)}, {1, 3, openWord("a", 3)}, {2, 0, openWord("b", 0)}, {2, 1, openWord("b", 0, 1)}, {2, 2, doneWord("b", 0, 2)}, {2, 3, doneWord("b", 0, 3)},
		{4, 0, openWord("d", 0, 1)}, {4, 1, openWord("d", 0, 1)}, {4, 2, doneWord("d", 0, 1, 2)}, {4, 3, doneWord("d", 0, 1, 3)},
	} {
		askAck(row.off, row.node).answers(t, c, w, changedWord(w, row.off-1, func(x *impl.Word) { *x = row.word }), 0)
	}
	for node := -1; node <= 5; node++ {
		for _, off := range []int{-1, 0, 3, 5, 6} {
			askAck(off, node).refuses(t, c, w)
		}
	}
	for _, node := range append(wrongNumbers(), 4, 5) {
		for off := 1; off <= 4; off++ {
			askAck(off, node).refuses(t, c, w)
		}
	}
}

// Every list of nodes that is not enough, and every node: the ones that are there stay, in order.
func TestAckEvery(t *testing.T) {
	for _, c := range slices.Concat(writerConfigs(), unheldConfigs()) {
		for _, acks := range unheldLists(c) {
			w := writerWith(9, openWord("a", 0), openWord("b", acks...))
			if isHeld(c, []int{0}) {
				w.Words[0] = openWord("a")
			}
			for node := range c.Domains {
				all := slices.Clone(acks)
				if !slices.Contains(all, node) {
					all = append(all, node)
					slices.Sort(all)
				}
				want := changedWord(w, 1, func(x *impl.Word) { x.Acks, x.Done = all, spanIs(c, all) >= c.Copies })
				askAck(2, node).answers(t, c, w, want, 0)
			}
			askAck(2, -1).refuses(t, c, w)
			askAck(2, len(c.Domains)).refuses(t, c, w)
		}
	}
}

// Each offset of short and long writers, the first and the last among them, and those where no word is.
func TestAckOffsets(t *testing.T) {
	for _, c := range writerConfigs() {
		for _, row := range []string{"", "o", "d", "od", "do", "oooooo", "dododododod", doneRow(lastOff), doneRow(lastOff, 1, 2, 30, 31, 59, 60)} {
			w := writerOf(c, 15, row)
			for off := 1; off <= len(row); off++ {
				for node := range c.Domains {
					if row[off-1] == 'd' {
						askAck(off, node).refuses(t, c, w)
					} else {
						askAck(off, node).check(t, c, w)
						if _, ok := impl.WriterAck(c, w, off, node); !ok {
							t.Fatalf("WriterAck(%v, %v, %d, %d) is refused", c, w, off, node)
						}
					}
				}
				askAck(off, -1).refuses(t, c, w)
				askAck(off, len(c.Domains)).refuses(t, c, w)
			}
			for _, off := range append(wrongOffs(), len(row)+1, len(row)+2) {
				for _, node := range []int{-1, 0, len(c.Domains) - 1, len(c.Domains)} {
					askAck(off, node).refuses(t, c, w)
				}
			}
		}
	}
}

// What is done takes no ack any more, of a node that is there, of one that is not, and of one that is none.
func TestAckDone(t *testing.T) {
	for _, c := range writerConfigs() {
		for _, acks := range heldLists(c) {
			w := writerWith(2, openWord("a"), doneWord("b", acks...))
			for _, node := range append(wrongNumbers(), nodesUpTo(mostNodes)...) {
				askAck(2, node).refuses(t, c, w)
			}
		}
	}
}

// In every order in which nodes can tell it, the word is done by the first with which they hold, and not ahead.
func TestAckOrders(t *testing.T) {
	c := conf(3, 0, 0, 1, 1, 2)
	var tell func(w impl.Writer, told []int)
	orders := 0
	tell = func(w impl.Writer, told []int) {
		if isHeld(c, slices.Sorted(slices.Values(told))) {
			orders++
			for node := range c.Domains {
				askAck(1, node).refuses(t, c, w)
			}
			return
		}
		for node := range c.Domains {
			if slices.Contains(told, node) {
				askAck(1, node).answers(t, c, w, w, 0)
				continue
			}
			now := append(slices.Clone(told), node)
			sorted := slices.Sorted(slices.Values(now))
			want := writerWith(5, impl.Word{Data: "x", Acks: sorted, Done: isHeld(c, sorted)})
			askAck(1, node).answers(t, c, w, want, 0)
			tell(want, now)
		}
	}
	tell(writerWith(5, openWord("x")), nil)
	// Three of different domains, four where one domain comes twice, or all five: 4 triples in 6 orders among them.
	if orders <= 24 {
		t.Errorf("only %d orders", orders)
	}
}

func TestAckNotWriter(t *testing.T) {
	for _, c := range writerConfigs() {
		for _, w := range badWriters(c) {
			for _, off := range []int{-1, 0, 1, 2, len(w.Words), len(w.Words) + 1} {
				for _, node := range []int{-1, 0, len(c.Domains) - 1, len(c.Domains)} {
					askAck(off, node).refusesWholly(t, c, w)
				}
			}
		}
	}
	for _, c := range badConfigs() {
		for _, w := range []impl.Writer{{}, {Epoch: 1}, writerWith(2, openWord("x")), writerWith(2, doneWord("x", 0, 1), openWord("y", 0))} {
			for off := range 3 {
				askAck(off, 0).refusesWholly(t, c, w)
				askAck(off, 1).refusesWholly(t, c, w)
				askAck(off, -1).refusesWholly(t, c, w)
			}
		}
	}
}

func TestForgetKnown(t *testing.T) {
	c := conf(2, 0, 0, 1, 2)
	w := writerWith(3, openWord("a", 0, 1), doneWord("b", 0, 2), openWord("c"), openWord("d", 1), doneWord("e", 0, 1, 2, 3), openWord("f", 3))
	for _, row := range []struct {
		node                int
		first, fourth, last []int
	}{
		{0, []int{1}, []int{1}, []int{3}}, {1, []int{0}, nil, []int{3}}, {2, []int{0, 1}, []int{1}, []int{3}}, {3, []int{0, 1}, []int{1}, nil},
		{-1, []int{0, 1}, []int{1}, []int{3}}, {4, []int{0, 1}, []int{1}, []int{3}}, {8, []int{0, 1}, []int{1}, []int{3}}, {256, []int{0, 1}, []int{1}, []int{3}},
		{1 << 32, []int{0, 1}, []int{1}, []int{3}}, {1<<32 + 1, []int{0, 1}, []int{1}, []int{3}}, {math.MinInt, []int{0, 1}, []int{1}, []int{3}}, {math.MaxInt, []int{0, 1}, []int{1}, []int{3}},
	} {
		want := cloneWriter(w)
		want.Words[0].Acks, want.Words[3].Acks, want.Words[5].Acks = row.first, row.fourth, row.last
		askForget(row.node).answers(t, c, w, want, 0)
		askForget(row.node).answers(t, c, want, want, 0)
	}
}

// Every list of nodes and every node: of a word that is not Done it goes, of one that is it stays.
func TestForgetEvery(t *testing.T) {
	for _, c := range slices.Concat(writerConfigs(), unheldConfigs()) {
		for mask := range 1 << len(c.Domains) {
			acks := nodesOf(mask)
			x := impl.Word{Data: "x", Acks: acks, Done: isHeld(c, acks)}
			w := writerWith(1, x, x, openWord("y"), x)
			for _, node := range append(wrongNumbers(), nodesUpTo(mostNodes)...) {
				want := cloneWriter(w)
				for i := range want.Words {
					if !x.Done {
						want.Words[i].Acks = slices.DeleteFunc(want.Words[i].Acks, func(n int) bool { return n == node })
					}
				}
				askForget(node).answers(t, c, w, want, 0)
			}
		}
	}
}

// Where all nodes are forgotten, one by one, no word that is not Done has any.
func TestForgetAll(t *testing.T) {
	for _, c := range writerConfigs() {
		for _, w := range someWriters(c) {
			want := cloneWriter(w)
			for i := range want.Words {
				if !want.Words[i].Done {
					want.Words[i].Acks = nil
				}
			}
			for node := range c.Domains {
				next, ok := impl.WriterForget(c, w, node)
				if !ok || !impl.WriterOk(c, next) {
					t.Fatalf("WriterForget(%v, %v, %d): %v, %v", c, w, node, next, ok)
				}
				w = next
			}
			if !sameWriter(w, want) {
				t.Fatalf("all are forgotten, and there is %v", w)
			}
		}
	}
}

// A node that was forgotten can tell it again.
func TestForgetAndAck(t *testing.T) {
	c := conf(2, 0, 0, 1, 2)
	w := writerWith(6, openWord("x", 0, 1))
	askForget(0).answers(t, c, w, writerWith(6, openWord("x", 1)), 0)
	askAck(1, 0).answers(t, c, writerWith(6, openWord("x", 1)), w, 0)
	done := writerWith(6, doneWord("x", 0, 1, 2))
	askAck(1, 2).answers(t, c, w, done, 0)
	for node := range 4 {
		askForget(node).answers(t, c, done, done, 0)
	}
}

func TestForgetNotWriter(t *testing.T) {
	for _, c := range writerConfigs() {
		for _, w := range badWriters(c) {
			for _, node := range []int{math.MinInt, -1, 0, 1, len(c.Domains) - 1, len(c.Domains), math.MaxInt} {
				askForget(node).refusesWholly(t, c, w)
			}
		}
	}
	for _, c := range badConfigs() {
		for _, w := range []impl.Writer{{}, {Epoch: 1}, writerWith(2, openWord("x", 0)), writerWith(2, doneWord("x", 0, 1))} {
			for node := -1; node <= 2; node++ {
				askForget(node).refusesWholly(t, c, w)
			}
		}
	}
}

func checkSure(t *testing.T, w impl.Writer, want int) {
	t.Helper()
	if got := impl.WriterSure(w); got != want || sureIs(w) != want {
		t.Fatalf("WriterSure(%v): %d, not %d", w, got, want)
	}
}

func TestSureKnown(t *testing.T) {
	checkSure(t, impl.Writer{}, 0)
	checkSure(t, impl.Writer{Epoch: 1, Words: []impl.Word{}}, 0)
	c := conf(2, 0, 0, 1, 2)
	for _, row := range []struct {
		row  string
		want int
	}{
		{"o", 0}, {"d", 1}, {"od", 0}, {"do", 1}, {"dd", 2}, {"oo", 0}, {"odddd", 0}, {"dod", 1}, {"ddodd", 2}, {"ddddo", 4}, {"ddddd", 5}, {"dooood", 1}, {"ddoddodd", 2},
		{doneRow(lastOff), lastOff}, {doneRow(lastOff, 60), 59}, {doneRow(lastOff, 1), 0}, {doneRow(lastOff, 59), 58}, {doneRow(lastOff, 2, 60), 1}, {doneRow(lastOff - 1), 59},
	} {
		checkSure(t, writerOf(c, 2, row.row), row.want)
	}
}

func TestSureEvery(t *testing.T) {
	for size := 0; size <= 10; size++ {
		for mask := range 1 << size {
			var w impl.Writer
			for i := range size {
				w.Words = append(w.Words, impl.Word{Done: mask>>i&1 == 1})
			}
			checkSure(t, w, sureIs(w))
		}
	}
	c := conf(2, 0, 0, 1, 2)
	for size := 1; size <= lastOff; size++ {
		checkSure(t, writerOf(c, 1, doneRow(size)), size)
		for off := 1; off <= size; off++ {
			checkSure(t, writerOf(c, 1, doneRow(size, off)), off-1)
			checkSure(t, writerOf(c, 1, doneRow(size, off, size)), off-1)
		}
	}
}

// It has no config, so that Done alone counts in any writer: whatever Epoch, Data and Acks are, and however many words there are.
func TestSureNotWriter(t *testing.T) {
	for _, c := range writerConfigs() {
		for _, w := range badWriters(c) {
			checkSure(t, w, sureIs(w))
		}
	}
	checkSure(t, impl.Writer{Epoch: -5, Words: []impl.Word{{Done: true}, {Done: true, Acks: []int{9, -3, 9}}, {Done: true, Data: strings.Repeat("x", 999)}, {Acks: []int{0, 1, 2, 3, 4, 5, 6, 7}}, {Done: true}}}, 3)
	for _, size := range []int{61, 62, 100, 256, 257, 1000} {
		checkSure(t, impl.Writer{Words: slices.Repeat([]impl.Word{{Done: true}}, size)}, size)
		checkSure(t, impl.Writer{Words: slices.Repeat([]impl.Word{{}}, size)}, 0)
		checkSure(t, impl.Writer{Words: append(slices.Repeat([]impl.Word{{Done: true}}, size), impl.Word{}, impl.Word{Done: true})}, size)
	}
}

// drawnWriterAsk is often refused, and often near to what would not be.
func drawnWriterAsk(drawn *rand.Rand, c impl.Config, w impl.Writer) writerAsk {
	size, nodes := len(w.Words), len(c.Domains)
	switch k := drawn.Intn(20); {
	case k < 4:
		return askAdd(strings.Repeat(string(rune('a'+drawn.Intn(26))), drawn.Intn(5)))
	case k < 5:
		return askAdd(strings.Repeat("x", mostData+drawn.Intn(2)))
	case k < 12:
		return askAck(max(1, size-drawn.Intn(mostOpen+2)), drawn.Intn(nodes))
	case k < 16:
		return askAck(impl.WriterSure(w)+1, drawn.Intn(nodes))
	case k < 18:
		return askAck(drawn.Intn(size+3)-1, drawn.Intn(nodes+2)-1)
	}
	return askForget(drawn.Intn(nodes+2) - 1)
}

// checkStep is promise 8 of one step, by what stands there ahead and behind.
func checkStep(t *testing.T, name string, before impl.Writer, after impl.Writer, off int) {
	t.Helper()
	if after.Epoch != before.Epoch || len(after.Words) < len(before.Words) || len(after.Words) > len(before.Words)+1 {
		t.Fatalf("%s: %v became %v", name, before, after)
	}
	if more := len(after.Words) > len(before.Words); more && off != len(after.Words) || !more && off != 0 || more != (off > 0 && strings.HasPrefix(name, "WriterAdd")) {
		t.Fatalf("%s tells the offset %d: %v became %v", name, off, before, after)
	}
	for i, x := range before.Words {
		if now := after.Words[i]; x.Done && !sameWord(x, now) || x.Data != now.Data {
			t.Fatalf("%s: the word %d was %v and is %v", name, i+1, x, now)
		}
	}
}

// checkSureUpTo asks that all up to there are Done, and that the next one is not.
func checkSureUpTo(t *testing.T, w impl.Writer) {
	t.Helper()
	sure := impl.WriterSure(w)
	if sure < 0 || sure > len(w.Words) || sure < len(w.Words) && w.Words[sure].Done {
		t.Fatalf("sure up to %d: %v", sure, w)
	}
	for i, x := range w.Words[:sure] {
		if !x.Done {
			t.Fatalf("sure up to %d, and the word %d is not done: %v", sure, i+1, w)
		}
	}
}

// checkForgotten asks that a node that was forgotten is among no Acks of a word that is not Done.
func checkForgotten(t *testing.T, name string, w impl.Writer) {
	t.Helper()
	node := 0
	if _, err := fmt.Sscanf(name, "WriterForget %d", &node); err != nil {
		return
	}
	for i, x := range w.Words {
		if !x.Done && slices.Contains(x.Acks, node) {
			t.Fatalf("%s: the word %d has it: %v", name, i+1, w)
		}
	}
}

func TestWriterDrawnRows(t *testing.T) {
	t.Parallel()
	for seed := range 200 {
		drawn := rand.New(rand.NewSource(int64(seed)))
		c := writerConfigs()[seed%len(writerConfigs())]
		w := impl.Writer{Epoch: 1 + seed%lastEpoch}
		dones := map[int]impl.Word{}
		sure := 0
		for range 150 {
			a := drawnWriterAsk(drawn, c, w)
			a.check(t, c, w)
			before := cloneWriter(w)
			next, off, ok := a.ask(c, w)
			if !ok && !sameWriter(next, before) || !sameWriter(w, before) {
				t.Fatalf("%s is refused, and turns %v into %v", a.name, before, next)
			}
			if !impl.WriterOk(c, next) {
				t.Fatalf("%s answers what is not right: %v", a.name, next)
			}
			checkStep(t, a.name, before, next, off)
			checkForgotten(t, a.name, next)
			checkSureUpTo(t, next)
			// Over the whole row: what was done once is the same ever after, and what is sure only becomes more.
			for i, x := range next.Words {
				if was, is := dones[i]; is && !sameWord(was, x) {
					t.Fatalf("%s: the word %d was %v, and is %v", a.name, i+1, was, x)
				}
				if x.Done {
					dones[i] = cloneWriter(writerWith(1, x)).Words[0]
				}
			}
			if now := impl.WriterSure(next); now < sure {
				t.Fatalf("%s: it was sure up to %d, and is up to %d", a.name, sure, now)
			}
			sure, w = impl.WriterSure(next), next
		}
	}
}

// Rows that fill the writer, so that the last offsets come too.
func TestWriterDrawnFull(t *testing.T) {
	t.Parallel()
	for seed := range 40 {
		drawn := rand.New(rand.NewSource(int64(700 + seed)))
		c := writerConfigs()[seed%len(writerConfigs())]
		w := writerOf(c, 30, doneRow(lastOff-5, 20, 40))
		for step := 0; len(w.Words) < lastOff || impl.WriterSure(w) < lastOff; step++ {
			if step > 5000 {
				t.Fatalf("not at its end: %v", w)
			}
			a := drawnWriterAsk(drawn, c, w)
			a.check(t, c, w)
			next, off, _ := a.ask(c, w)
			checkStep(t, a.name, w, next, off)
			checkForgotten(t, a.name, next)
			checkSureUpTo(t, next)
			w = next
		}
		for _, a := range writerAsks(c) {
			if strings.HasPrefix(a.name, "WriterForget") {
				a.answers(t, c, w, w, 0)
			} else {
				a.refuses(t, c, w)
			}
		}
	}
}

// writerWithRoom lays the words and each one's Acks between others, with spare room behind them; the wholes are answered too.
func writerWithRoom(w impl.Writer) (impl.Writer, []impl.Word, [][]int) {
	side := slices.Repeat([]impl.Word{{Data: "side", Acks: []int{-3}, Done: true}}, 9)
	whole := slices.Concat(side[:2], w.Words, side)
	var wholes [][]int
	for i := range w.Words {
		acks, wholeAcks := numbersWithRoom(w.Words[i].Acks)
		whole[2+i].Acks = acks
		wholes = append(wholes, wholeAcks)
	}
	return impl.Writer{Epoch: w.Epoch, Words: whole[2 : 2+len(w.Words)]}, whole, wholes
}

// spoilWriter writes over all that an answer's memory holds, the spare room too.
func spoilWriter(w impl.Writer) {
	words := w.Words[:cap(w.Words)]
	for i := range words {
		spoilNumbers(words[i].Acks)
		words[i] = impl.Word{Data: "spoilt", Acks: []int{-99}, Done: true}
	}
}

func fewWriters(c impl.Config) []impl.Writer {
	var list []impl.Writer
	for i, row := range []string{"", "o", "d", "oo", "dodo", "oooooo", "dodododd", doneRow(lastOff-1, 2, 30), doneRow(lastOff, 3, 60), doneRow(lastOff)} {
		list = append(list, writerOf(c, 1+i*3, row))
	}
	return list
}

// fewWriterAsks has what is done and what is refused, of each kind.
func fewWriterAsks(c impl.Config) []writerAsk {
	last := len(c.Domains) - 1
	list := []writerAsk{askAdd(""), askAdd("x"), askAdd(strings.Repeat("x", mostData)), askAdd(strings.Repeat("x", mostData+1)), askForget(-1), askForget(0), askForget(1), askForget(last), askForget(last + 1)}
	for _, off := range []int{math.MinInt, -1, 0, 1, 2, 3, 5, 6, 7, 30, 59, 60, 61, math.MaxInt} {
		list = append(list, askAck(off, 0), askAck(off, last), askAck(off, last+1), askAck(off, -1))
	}
	return list
}

// checkWordsLaid asks that what was laid down is as it was laid.
func checkWordsLaid(t *testing.T, name string, whole []impl.Word, before []impl.Word, wholes [][]int, wholesBefore [][]int) {
	t.Helper()
	if !slices.EqualFunc(whole, before, sameWord) {
		t.Fatalf("%s wrote into the words: %v became %v", name, before, whole)
	}
	if !slices.EqualFunc(wholes, wholesBefore, slices.Equal[[]int]) {
		t.Fatalf("%s wrote into nodes: %v became %v", name, wholesBefore, wholes)
	}
}

// The answers are written over too: what they share with an argument, or with the room behind one, would be seen.
func TestWriterWritesNothing(t *testing.T) {
	for _, c := range writerConfigs() {
		for _, w := range slices.Concat(fewWriters(c), badWriters(c)) {
			domains, domainsWhole := numbersWithRoom(c.Domains)
			given, whole, wholes := writerWithRoom(w)
			wholes = append(wholes, domainsWhole)
			before := cloneWriter(impl.Writer{Words: whole}).Words
			wholesBefore := cloneLists(wholes)
			own := impl.Config{Domains: domains, Copies: c.Copies}
			for _, a := range fewWriterAsks(c) {
				got, _, _ := a.ask(own, given)
				spoilWriter(got)
				checkWordsLaid(t, a.name, whole, before, wholes, wholesBefore)
			}
			impl.WriterOk(own, given)
			impl.WriterSure(given)
			checkWordsLaid(t, "WriterOk or WriterSure", whole, before, wholes, wholesBefore)
		}
	}
}

// checkAcksApart writes over each list of an answer in turn, with its spare room: no other one may be seen to change.
func checkAcksApart(t *testing.T, name string, got impl.Writer) {
	t.Helper()
	want := cloneWriter(got)
	for i := range got.Words {
		spoilNumbers(got.Words[i].Acks)
		for j := i + 1; j < len(got.Words); j++ {
			if !sameWord(got.Words[j], want.Words[j]) {
				t.Fatalf("%s: the words %d and %d share memory", name, i, j)
			}
		}
	}
}

// The standing answer is looked at ahead of a third call: that one would write over what is kept.
func TestWriterSharesNothing(t *testing.T) {
	for _, c := range writerConfigs() {
		for _, w := range slices.Concat(fewWriters(c), badWriters(c)) {
			for _, a := range fewWriterAsks(c) {
				want, _, _ := a.want(c, w)
				one, _, _ := a.ask(c, w)
				two, _, _ := a.ask(c, w)
				spoilWriter(one)
				if !sameWriter(two, want) {
					t.Fatalf("two answers of %s of %v share memory", a.name, w)
				}
				checkAcksApart(t, a.name, two)
				a.check(t, c, w)
			}
		}
	}
}

// Refused too: the answer is the writer as it was, and yet not its memory.
func TestWriterRefusedSharesNothing(t *testing.T) {
	for _, c := range writerConfigs() {
		for _, a := range []writerAsk{askAdd(strings.Repeat("x", mostData+1)), askAck(0, 0), askAck(61, 0), askAck(1, -1), askAck(1, len(c.Domains)), askAck(3, math.MaxInt), askAck(math.MaxInt, 0)} {
			for _, w := range fewWriters(c) {
				own := cloneWriter(w)
				got, _, ok := a.ask(c, own)
				spoilWriter(own)
				if ok || !sameWriter(got, w) {
					t.Fatalf("%s of %v: became %v", a.name, w, got)
				}
				checkAcksApart(t, a.name, got)
				spoilWriter(got)
				a.refuses(t, c, w)
			}
		}
		full, done := writerOf(c, 3, "oooooo"), writerOf(c, 3, doneRow(lastOff))
		for _, row := range []struct {
			a writerAsk
			w impl.Writer
		}{{askAdd("x"), full}, {askAdd("x"), done}, {askAck(1, 0), done}, {askAck(60, 0), done}} {
			own := cloneWriter(row.w)
			got, _, ok := row.a.ask(c, own)
			spoilWriter(own)
			if ok || !sameWriter(got, row.w) {
				t.Fatalf("%s of %v: became %v", row.a.name, row.w, got)
			}
		}
	}
}

// An answer stays as it was told, whatever is done to the argument afterwards.
func TestWriterAnswerStays(t *testing.T) {
	for _, c := range writerConfigs() {
		other := writerOf(c, 5, "odo")
		for _, w := range fewWriters(c) {
			for _, a := range fewWriterAsks(c) {
				want, _, _ := a.want(c, w)
				own, ownConfig := cloneWriter(w), impl.Config{Domains: slices.Clone(c.Domains), Copies: c.Copies}
				got, _, _ := a.ask(ownConfig, own)
				spoilWriter(own)
				spoilNumbers(ownConfig.Domains)
				a.ask(c, other)
				if !sameWriter(got, want) {
					t.Fatalf("%s of %v: became %v", a.name, w, got)
				}
			}
		}
	}
}

// A row of answers: each is made of the one ahead, and none is turned by what comes after it.
func TestWriterRowStays(t *testing.T) {
	c := conf(2, 0, 0, 1, 2)
	row := []impl.Writer{{Epoch: 2}}
	var told []impl.Writer
	for _, a := range []writerAsk{
		askAdd("a"), askAdd("b"), askAck(1, 3), askAck(2, 1), askAck(2, 0), askForget(1), askAdd("c"), askAck(2, 3), askAck(1, 0), askAck(3, 2), askForget(2), askAdd("d"), askAck(4, 0), askAck(4, 1), askAck(3, 0),
	} {
		last := row[len(row)-1]
		told = append(told, cloneWriter(last))
		next, _, ok := a.ask(c, last)
		if !ok {
			t.Fatalf("%s of %v is refused", a.name, last)
		}
		row = append(row, next)
		for i, w := range told {
			if !sameWriter(row[i], w) {
				t.Fatalf("%s turned an earlier answer: %v became %v", a.name, w, row[i])
			}
		}
	}
}

// One memory may be the domains and the Acks of every word.
func TestWriterOneMemory(t *testing.T) {
	for _, row := range []string{"o", "d", "odo", "oooooo", doneRow(lastOff-1, 2, 9)} {
		same := []int{0, 1, 2, 3}
		c := impl.Config{Domains: same, Copies: 2}
		w := impl.Writer{Epoch: 3}
		for _, letter := range row {
			if letter == 'd' {
				w.Words = append(w.Words, doneWord("x", same...))
			} else {
				w.Words = append(w.Words, openWord("x", same[:1]...))
			}
		}
		for _, a := range fewWriterAsks(c) {
			want, wantOff, wantOk := a.want(c, w)
			got, off, ok := a.ask(c, w)
			if ok != wantOk || off != wantOff || !sameWriter(got, want) {
				t.Fatalf("%s of one memory: %v, %d, %v", a.name, got, off, ok)
			}
			checkAcksApart(t, a.name, got)
			spoilWriter(got)
			if !slices.Equal(same, []int{0, 1, 2, 3}) {
				t.Fatalf("%s wrote into it: %v", a.name, same)
			}
		}
	}
}

// Nothing is kept from call to call: an answer is the same whatever was asked ahead of it.
func TestWriterAgain(t *testing.T) {
	c, other := conf(2, 0, 0, 1, 2), conf(1, 5)
	some, few := writerOf(c, 4, "dodo"), writerOf(other, 4, "od")
	for range 3 {
		for _, a := range writerAsks(c) {
			a.check(t, c, some)
			a.check(t, c, impl.Writer{Epoch: 1})
			a.check(t, c, impl.Writer{})
			a.check(t, other, few)
		}
		checkSure(t, some, 1)
		checkSure(t, few, 0)
	}
}
