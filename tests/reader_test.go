package tests

import (
	"fmt"
	"math"
	"math/rand"
	"slices"
	"strings"
	"testing"

	"loop.example/g00178/impl"
)

// The document's numbers, written out here so that changed constants are seen.
const (
	mostOut = 120

	evData = 1
	evHole = 2
	evLoss = 3
	evEra  = 4
	evTrim = 5

	rdDone = 0
	rdBad  = 1
	rdWait = 2
	rdFew  = 3
)

// isReader is what ReaderOk must answer, by a model of the tests' own.
func isReader(r impl.Reader) bool {
	return slices.Contains(nodesUpTo(lastEpoch + 2)[1:], r.Epoch) && slices.Contains(nodesUpTo(lastOff + 2)[1:], r.Off) && len(r.Out) <= mostOut
}

func cloneReader(r impl.Reader) impl.Reader {
	return impl.Reader{Epoch: r.Epoch, Off: r.Off, Out: append([]impl.Event(nil), r.Out...)}
}

func sameReader(a impl.Reader, b impl.Reader) bool {
	return a.Epoch == b.Epoch && a.Off == b.Off && slices.Equal(a.Out, b.Out)
}

// readStep is one call of ReaderNext, with all that it is given.
type readStep struct {
	config impl.Config
	reg    impl.Register
	sure   int
	reader impl.Reader
	list   []impl.Answer
}

func (s readStep) ask() (impl.Reader, int) {
	return impl.ReaderNext(s.config, s.reg, s.sure, s.reader, s.list)
}

func (s readStep) nodes() []int {
	var nodes []int
	for _, a := range s.list {
		nodes = append(nodes, a.Node)
	}
	return nodes
}

func (s readStep) String() string {
	return fmt.Sprintf("ReaderNext of %.120s, %.400s, sure %d, at %d.%d with %d told, %.400s", fmt.Sprint(s.config), fmt.Sprint(s.reg), s.sure, s.reader.Epoch, s.reader.Off, len(s.reader.Out), fmt.Sprint(s.list))
}

func toldTo(r impl.Reader, e impl.Event, epoch int, off int) impl.Reader {
	return impl.Reader{Epoch: epoch, Off: off, Out: append(slices.Clone(r.Out), e)}
}

// want is what must be answered, by a model of the tests' own.
func (s readStep) want() (impl.Reader, int) {
	r := s.reader
	if !isRegister(s.config, s.reg) || !isReader(r) || !areNodes(s.config, s.nodes()) {
		return impl.Reader{}, rdBad
	}
	if r.Epoch > len(s.reg.Eras) || len(r.Out) >= mostOut {
		return cloneReader(r), rdWait
	}
	era := s.reg.Eras[r.Epoch-1]
	trim := []int{s.reg.Trim / epochStep, s.reg.Trim % epochStep}
	if slices.Compare(trim, []int{r.Epoch, r.Off}) >= 0 {
		return toldTo(r, impl.Event{Kind: evTrim, At: s.reg.Trim}, trim[0], trim[1]+1), rdDone
	}
	if era.Closed && r.Off > era.Last {
		return toldTo(r, impl.Event{Kind: evEra, At: r.Epoch + 1}, r.Epoch+1, 1), rdDone
	}
	if !era.Closed && r.Off > s.sure || r.Off > lastOff {
		return cloneReader(r), rdWait
	}
	var heard []int
	for _, n := range s.nodes() {
		if slices.Contains(era.Nodes, n) {
			heard = append(heard, n)
		}
	}
	if !isEnough(s.config, era.Nodes, heard) {
		return cloneReader(r), rdFew
	}
	return toldTo(r, s.bestEvent(era), r.Epoch, r.Off+1), rdDone
}

// bestEvent goes through the waves from the greatest one down, and takes the first answer that has it.
func (s readStep) bestEvent(era impl.Era) impl.Event {
	place := at(s.reader.Epoch, s.reader.Off)
	for wave := lastEpoch; wave >= 0; wave-- {
		for _, a := range s.list {
			e := a.Entry
			if !a.Has || e.Wave != wave || e.At != place || !isEntry(e) || !slices.Contains(era.Nodes, a.Node) {
				continue
			}
			if e.Hole {
				return impl.Event{Kind: evHole, At: place}
			}
			return impl.Event{Kind: evData, At: place, Data: e.Data}
		}
	}
	return impl.Event{Kind: evLoss, At: place}
}

func (s readStep) answers(t *testing.T, want impl.Reader, wantCode int) {
	t.Helper()
	if got, code := s.ask(); code != wantCode || !sameReader(got, want) {
		t.Fatalf("%v: %v, %d; want %v, %d", s, got, code, want, wantCode)
	}
}

func (s readStep) check(t *testing.T) {
	t.Helper()
	want, code := s.want()
	s.answers(t, want, code)
}

// The three below are as the document has it, and not by the model; that one must say the same.

func (s readStep) isBad(t *testing.T) {
	t.Helper()
	s.answers(t, impl.Reader{}, rdBad)
	s.check(t)
}

func (s readStep) stays(t *testing.T, code int) {
	t.Helper()
	s.answers(t, s.reader, code)
	s.check(t)
}

func (s readStep) tells(t *testing.T, e impl.Event, epoch int, off int) {
	t.Helper()
	s.answers(t, toldTo(s.reader, e, epoch, off), rdDone)
	s.check(t)
}

// with is the step with something else.
func (s readStep) with(change func(*readStep)) readStep {
	change(&s)
	return s
}

func (s readStep) at(epoch int, off int) readStep {
	s.reader.Epoch, s.reader.Off = epoch, off
	return s
}

func (s readStep) trim(place int) readStep {
	s.reg.Trim = place
	return s
}

func (s readStep) upTo(sure int) readStep {
	s.sure = sure
	return s
}

func (s readStep) from(list ...impl.Answer) readStep {
	s.list = list
	return s
}

func nothingFrom(nodes ...int) []impl.Answer {
	var list []impl.Answer
	for _, n := range nodes {
		list = append(list, impl.Answer{Node: n})
	}
	return list
}

func allHave(e impl.Entry, nodes ...int) []impl.Answer {
	list := nothingFrom(nodes...)
	for i := range list {
		list[i].Has, list[i].Entry = true, e
	}
	return list
}

func has(node int, e impl.Entry) impl.Answer {
	return impl.Answer{Node: node, Has: true, Entry: e}
}

// someEvents is of that many; a reader may have told whatever it did.
func someEvents(size int) []impl.Event {
	var list []impl.Event
	for i := range size {
		list = append(list, impl.Event{Kind: i%7 - 1, At: at(i%33, i%63) - i%2*100, Data: strings.Repeat("e", i%50)})
	}
	return list
}

func readerAt(epoch int, off int, told int) impl.Reader {
	return impl.Reader{Epoch: epoch, Off: off, Out: someEvents(told)}
}

// fiveEras has two epochs that are open behind three that are closed: at 5, at nothing, and at the last offset there is.
func fiveEras() impl.Register {
	return impl.Register{Eras: []impl.Era{closedEra(5, 0, 1, 2, 3), closedEra(0, 0, 2, 3), closedEra(60, 1, 2, 3), openEra(0, 1, 2, 3), openEra(2, 3)}}
}

// fiveStep is at the first place, with all nodes having nothing; in fiveConfig the nodes 0 and 1 are of one domain.
func fiveStep() readStep {
	return readStep{config: fiveConfig(), reg: fiveEras(), reader: readerAt(1, 1, 3), list: nothingFrom(0, 1, 2, 3)}
}

func fiveConfig() impl.Config {
	return conf(2, 0, 0, 1, 2)
}

func checkReaderOk(t *testing.T, r impl.Reader, want bool) {
	t.Helper()
	if impl.ReaderOk(r) != want || isReader(r) != want {
		t.Fatalf("ReaderOk at %d.%d with %d events is not %v", r.Epoch, r.Off, len(r.Out), want)
	}
}

func TestReaderLimits(t *testing.T) {
	if impl.MaxOut != mostOut {
		t.Errorf("MaxOut is %d", impl.MaxOut)
	}
	kinds := []int{impl.EvData, impl.EvHole, impl.EvLoss, impl.EvEra, impl.EvTrim}
	if !slices.Equal(kinds, []int{evData, evHole, evLoss, evEra, evTrim}) {
		t.Errorf("the kinds are %v", kinds)
	}
	codes := []int{impl.RdDone, impl.RdBad, impl.RdWait, impl.RdFew}
	if !slices.Equal(codes, []int{rdDone, rdBad, rdWait, rdFew}) {
		t.Errorf("the codes are %v", codes)
	}
}

func TestReaderOkEdges(t *testing.T) {
	checkReaderOk(t, impl.Reader{}, false)
	for _, row := range []struct {
		number int
		epoch  bool
		off    bool
	}{
		{math.MinInt, false, false}, {-epochStep + 1, false, false}, {-1, false, false}, {0, false, false}, {1, true, true}, {2, true, true}, {29, true, true}, {30, true, true}, {31, true, true}, {32, false, true}, {33, false, true},
		{59, false, true}, {60, false, true}, {61, false, true}, {62, false, false}, {63, false, false}, {256, false, false}, {257, false, false}, {epochStep, false, false}, {epochStep + 1, false, false}, {math.MaxInt, false, false},
	} {
		for _, told := range []int{0, 1, mostOut} {
			for _, other := range []int{1, 17, 31} {
				checkReaderOk(t, readerAt(row.number, other, told), row.epoch)
				checkReaderOk(t, readerAt(other, row.number, told), row.off)
			}
			checkReaderOk(t, readerAt(31, 61, told), true)
			checkReaderOk(t, readerAt(row.number, 62, told), false)
			checkReaderOk(t, readerAt(0, row.number, told), false)
		}
	}
}

func TestReaderOkEvents(t *testing.T) {
	for told := range mostOut + 10 {
		for _, place := range [][2]int{{1, 1}, {30, 60}, {31, 61}, {7, 9}} {
			checkReaderOk(t, readerAt(place[0], place[1], told), told <= mostOut)
		}
		checkReaderOk(t, readerAt(0, 1, told), false)
		checkReaderOk(t, readerAt(1, 62, told), false)
	}
	for _, told := range []int{240, 256, 257, 376, 5000} {
		checkReaderOk(t, readerAt(1, 1, told), false)
	}
	// What was told may be anything.
	checkReaderOk(t, impl.Reader{Epoch: 1, Off: 1, Out: []impl.Event{{}, {Kind: 9, At: math.MinInt, Data: strings.Repeat("x", 70000)}, {Kind: -1, At: -1}, {}}}, true)
	checkReaderOk(t, impl.Reader{Epoch: 1, Off: 1, Out: []impl.Event{}}, true)
	checkReaderOk(t, impl.Reader{Epoch: 1, Off: 1, Out: make([]impl.Event, mostOut, 5000)}, true)
	checkReaderOk(t, impl.Reader{Epoch: 1, Off: 1, Out: make([]impl.Event, mostOut+1)}, false)
}

func TestReaderNew(t *testing.T) {
	for range 3 {
		r := impl.ReaderNew()
		if !sameReader(r, impl.Reader{Epoch: 1, Off: 1}) || !impl.ReaderOk(r) {
			t.Fatalf("new: %v", r)
		}
		r.Out = append(r.Out, someEvents(9)...)
		r.Epoch, r.Off = 9, 9
	}
	c := conf(1, 0)
	g := impl.Register{Eras: []impl.Era{openEra(0)}}
	place := at(1, 1)
	readStep{c, g, 1, impl.ReaderNew(), allHave(impl.Entry{At: place, Data: "a"}, 0)}.tells(t, impl.Event{Kind: evData, At: place, Data: "a"}, 1, 2)
	readStep{c, g, 0, impl.ReaderNew(), allHave(impl.Entry{At: place, Data: "a"}, 0)}.stays(t, rdWait)
	readStep{c, impl.Register{}, 1, impl.ReaderNew(), nil}.stays(t, rdWait)
}

// badReaders has readers that are not right, each for one reason.
func badReaders() []impl.Reader {
	return []impl.Reader{
		{}, readerAt(0, 1, 0), readerAt(-1, 1, 2), readerAt(lastEpoch+2, 1, 0), readerAt(math.MinInt, 1, 0), readerAt(math.MaxInt, 1, 1), readerAt(epochStep+1, 1, 1), readerAt(257, 1, 1),
		readerAt(1, 0, 0), readerAt(1, -1, 2), readerAt(1, lastOff+2, 0), readerAt(1, math.MinInt, 0), readerAt(1, math.MaxInt, 1), readerAt(1, epochStep+1, 1), readerAt(1, 257, 1),
		readerAt(1, 1, mostOut+1), readerAt(31, 61, mostOut+1), readerAt(2, 5, 3000), {Out: someEvents(2)},
	}
}

// someReaders has readers that are right: where something comes, where nothing does, and with as much told as can be.
func someReaders() []impl.Reader {
	list := []impl.Reader{impl.ReaderNew()}
	for _, place := range [][2]int{{1, 1}, {1, 6}, {2, 1}, {3, 60}, {4, 61}, {5, 2}, {30, 60}, {31, 61}} {
		list = append(list, readerAt(place[0], place[1], 0), readerAt(place[0], place[1], 7), readerAt(place[0], place[1], mostOut))
	}
	return list
}

// wrongAnswers has lists of which the nodes are not NodesOk; what they have is right.
func wrongAnswers(c impl.Config) [][]impl.Answer {
	var lists [][]impl.Answer
	for _, nodes := range slices.Concat(wrongNodes(c), badLists()) {
		lists = append(lists, allHave(impl.Entry{At: at(1, 1), Data: "a"}, nodes...))
	}
	return lists
}

func TestNextBadRegister(t *testing.T) {
	for _, c := range registerConfigs() {
		all := nothingFrom(nodesUpTo(len(c.Domains))...)
		for _, g := range badRegisters(c) {
			for _, r := range someReaders() {
				readStep{c, g, 60, r, all}.isBad(t)
				readStep{c, g, 0, r, nil}.isBad(t)
			}
		}
	}
	// The last epoch is closed: none comes behind it.
	s := fiveStep()
	for closed := 1; closed <= 5; closed++ {
		for _, last := range []int{0, 3, lastOff} {
			g := fiveEras()
			for i := range closed {
				g.Eras[i].Closed, g.Eras[i].Last = true, last
			}
			g.Eras = g.Eras[:closed]
			for off := 1; off <= lastOff+1; off++ {
				s.with(func(s *readStep) { s.reg = g }).at(closed, off).upTo(60).isBad(t)
			}
		}
	}
}

func TestNextBadReader(t *testing.T) {
	for _, c := range registerConfigs() {
		all := nothingFrom(nodesUpTo(len(c.Domains))...)
		for _, g := range someRegisters(c) {
			for _, r := range badReaders() {
				readStep{c, g, 60, r, all}.isBad(t)
				readStep{c, g, 0, r, nil}.isBad(t)
			}
		}
	}
}

func TestNextBadNodes(t *testing.T) {
	t.Parallel()
	for _, c := range registerConfigs() {
		for _, g := range fewRegisters(c)[:5] {
			for _, list := range wrongAnswers(c) {
				for _, r := range someReaders() {
					readStep{c, g, 60, r, list}.isBad(t)
				}
			}
		}
	}
	// Those that are not of the epoch must be right too, and those that have nothing.
	s := fiveStep().at(5, 1).upTo(9)
	for _, nodes := range [][]int{{1, 0, 2, 3}, {0, 0, 2, 3}, {2, 3, 4}, {2, 3, 3}, {3, 2}, {-1, 2, 3}, {2, 3, 0}, {2, 3, 8}} {
		s.from(nothingFrom(nodes...)...).isBad(t)
	}
	s.from(nothingFrom(0, 1, 2, 3)...).tells(t, impl.Event{Kind: evLoss, At: at(5, 1)}, 5, 2)
}

func TestNextBadConfig(t *testing.T) {
	for _, c := range badConfigs() {
		for _, r := range []impl.Reader{impl.ReaderNew(), readerAt(1, 1, mostOut), readerAt(31, 61, 2), readerAt(2, 3, 4)} {
			for _, g := range []impl.Register{{}, {Eras: []impl.Era{openEra()}}, {Eras: []impl.Era{openEra(0)}}, {Eras: []impl.Era{openEra(nodesUpTo(len(c.Domains))...)}}, fiveEras()} {
				for _, list := range [][]impl.Answer{nil, nothingFrom(0), nothingFrom(nodesUpTo(len(c.Domains))...)} {
					readStep{c, g, 5, r, list}.isBad(t)
				}
			}
		}
	}
}

// Where several are wrong it is the same answer; one that is right does not help.
func TestNextBadTogether(t *testing.T) {
	right := conf(2, 0, 0, 1, 2)
	configs := append(badConfigs(), right)
	registers := append(badRegisters(right)[:12], fiveEras())
	readers := append(badReaders(), readerAt(4, 1, 2))
	lists := append(wrongAnswers(right)[:10], nothingFrom(2, 3))
	for i, c := range configs {
		for j, g := range registers {
			for k, r := range readers {
				for l, list := range lists {
					if i == len(configs)-1 && j == len(registers)-1 && k == len(readers)-1 && l == len(lists)-1 {
						continue
					}
					readStep{c, g, 1, r, list}.answers(t, impl.Reader{}, rdBad)
				}
			}
		}
	}
	readStep{right, fiveEras(), 1, readerAt(4, 1, 2), nothingFrom(2, 3)}.tells(t, impl.Event{Kind: evLoss, At: at(4, 1)}, 4, 2)
}

// An epoch that is not there: no list, no sure and nothing given up bring one.
func TestNextNoEpoch(t *testing.T) {
	c := fiveConfig()
	for size := 0; size <= lastEpoch; size++ {
		g := registerOf(c, size, max(0, size-1), 0)
		for epoch := size + 1; epoch <= lastEpoch+1; epoch += 1 + size/3 {
			for _, off := range []int{1, 2, lastOff, lastOff + 1} {
				for _, told := range []int{0, 5, mostOut} {
					s := readStep{config: c, reg: g, sure: 60, reader: readerAt(epoch, off, told)}
					s.stays(t, rdWait)
					s.from(nothingFrom(0, 1, 2, 3)...).stays(t, rdWait)
					s.from(nothingFrom(0)...).upTo(0).stays(t, rdWait)
					s.from(allHave(impl.Entry{At: at(epoch, off), Data: "a"}, 0, 1, 2, 3)...).upTo(math.MaxInt).stays(t, rdWait)
					if size > 0 {
						s.trim(at(size, lastOff)).stays(t, rdWait)
						s.trim(at(1, 1)).stays(t, rdWait)
					}
				}
			}
		}
	}
}

// With MaxOut events nothing more is told, whatever there would be; with one fewer it is.
func TestNextMostTold(t *testing.T) {
	s := fiveStep().upTo(60)
	data := impl.Entry{At: at(1, 1), Data: "a"}
	for _, row := range []struct {
		step readStep
		tell impl.Event
		next [2]int
	}{
		{s.trim(at(1, 1)), impl.Event{Kind: evTrim, At: at(1, 1)}, [2]int{1, 2}},
		{s.trim(at(4, 60)), impl.Event{Kind: evTrim, At: at(4, 60)}, [2]int{4, 61}},
		{s.at(1, 6), impl.Event{Kind: evEra, At: 2}, [2]int{2, 1}},
		{s.at(1, 6).trim(at(1, 6)), impl.Event{Kind: evTrim, At: at(1, 6)}, [2]int{1, 7}},
		{s.at(2, 1), impl.Event{Kind: evEra, At: 3}, [2]int{3, 1}},
		{s.from(allHave(data, 0, 1, 2, 3)...), impl.Event{Kind: evData, At: at(1, 1), Data: "a"}, [2]int{1, 2}},
		{s.from(allHave(impl.Entry{At: at(1, 1), Wave: 2, Hole: true}, 2, 3)...), impl.Event{Kind: evHole, At: at(1, 1)}, [2]int{1, 2}},
		{s.at(4, 3), impl.Event{Kind: evLoss, At: at(4, 3)}, [2]int{4, 4}},
	} {
		for _, told := range []int{0, 1, mostOut - 2, mostOut - 1} {
			row.step.reader.Out = someEvents(told)
			row.step.tells(t, row.tell, row.next[0], row.next[1])
		}
		row.step.reader.Out = someEvents(mostOut)
		row.step.stays(t, rdWait)
		// Fewer nodes do not turn it into RdFew.
		row.step.from().stays(t, rdWait)
		row.step.from(nothingFrom(2)...).stays(t, rdWait)
		row.step.reader.Out = someEvents(mostOut + 1)
		row.step.isBad(t)
	}
	few := s.from(nothingFrom(2)...)
	few.reader.Out = someEvents(mostOut - 1)
	few.stays(t, rdFew)
	few.reader.Out = someEvents(mostOut)
	few.stays(t, rdWait)
	wait := s.at(4, 61)
	wait.reader.Out = someEvents(mostOut)
	wait.stays(t, rdWait)
}

func TestNextTrimKnown(t *testing.T) {
	s := fiveStep().upTo(60)
	for _, row := range []struct {
		epoch, off int
		trim       int
		next       [2]int
	}{
		// In the third epoch, which is closed at 60.
		{3, 10, at(3, 10), [2]int{3, 11}}, {3, 10, at(3, 11), [2]int{3, 12}}, {3, 10, at(3, 40), [2]int{3, 41}}, {3, 10, at(3, 59), [2]int{3, 60}}, {3, 10, at(3, 60), [2]int{3, 61}},
		{3, 10, at(4, 1), [2]int{4, 2}}, {3, 10, at(4, 9), [2]int{4, 10}}, {3, 10, at(4, 60), [2]int{4, 61}}, {3, 10, at(5, 1), [2]int{5, 2}}, {3, 10, at(5, 60), [2]int{5, 61}},
		{3, 60, at(3, 60), [2]int{3, 61}}, {3, 61, at(4, 1), [2]int{4, 2}}, {3, 60, at(4, 1), [2]int{4, 2}}, {3, 1, at(3, 1), [2]int{3, 2}},
		// Where the epoch is closed, and the offset above Last: what is given up comes first.
		{1, 6, at(1, 6), [2]int{1, 7}}, {1, 6, at(1, 60), [2]int{1, 61}}, {1, 6, at(2, 1), [2]int{2, 2}}, {1, 7, at(1, 7), [2]int{1, 8}}, {1, 61, at(2, 1), [2]int{2, 2}}, {1, 61, at(5, 7), [2]int{5, 8}},
		{2, 1, at(2, 1), [2]int{2, 2}}, {2, 1, at(2, 60), [2]int{2, 61}}, {2, 61, at(3, 1), [2]int{3, 2}}, {2, 50, at(3, 1), [2]int{3, 2}}, {3, 61, at(5, 1), [2]int{5, 2}},
		// In one that is not closed, above what is sure too.
		{4, 1, at(4, 1), [2]int{4, 2}}, {4, 1, at(4, 60), [2]int{4, 61}}, {4, 61, at(5, 1), [2]int{5, 2}}, {5, 1, at(5, 1), [2]int{5, 2}}, {5, 60, at(5, 60), [2]int{5, 61}}, {4, 60, at(5, 60), [2]int{5, 61}},
		{1, 1, at(1, 1), [2]int{1, 2}}, {1, 1, at(5, 60), [2]int{5, 61}}, {1, 5, at(1, 5), [2]int{1, 6}},
	} {
		e := impl.Event{Kind: evTrim, At: row.trim}
		given := s.at(row.epoch, row.off).trim(row.trim)
		for _, sure := range []int{math.MinInt, 0, row.off - 1, row.off, 60, math.MaxInt} {
			given.upTo(sure).tells(t, e, row.next[0], row.next[1])
			given.upTo(sure).from().tells(t, e, row.next[0], row.next[1])
			given.upTo(sure).from(nothingFrom(2)...).tells(t, e, row.next[0], row.next[1])
			given.upTo(sure).from(allHave(impl.Entry{At: at(row.epoch, row.off), Data: "a"}, 0, 1, 2, 3)...).tells(t, e, row.next[0], row.next[1])
		}
	}
}

// What is given up before where the reader is tells nothing any more.
func TestNextTrimBefore(t *testing.T) {
	s := fiveStep().upTo(60)
	for _, trim := range []int{0, at(1, 1), at(1, 60), at(2, 1), at(2, 59), at(2, 60), at(3, 1), at(3, 8), at(3, 9)} {
		s.at(3, 10).trim(trim).tells(t, impl.Event{Kind: evLoss, At: at(3, 10)}, 3, 11)
		s.at(3, 61).trim(trim).tells(t, impl.Event{Kind: evEra, At: 4}, 4, 1)
		s.at(4, 10).trim(trim).tells(t, impl.Event{Kind: evLoss, At: at(4, 10)}, 4, 11)
		s.at(4, 10).trim(trim).upTo(9).stays(t, rdWait)
		s.at(4, 10).trim(trim).from(nothingFrom(2)...).stays(t, rdFew)
		s.at(4, 61).trim(trim).stays(t, rdWait)
		s.at(6, 1).trim(trim).stays(t, rdWait)
	}
	s.at(3, 61).trim(at(3, 60)).tells(t, impl.Event{Kind: evEra, At: 4}, 4, 1)
	s.at(3, 1).trim(at(2, 60)).tells(t, impl.Event{Kind: evLoss, At: at(3, 1)}, 3, 2)
	s.at(2, 1).trim(at(1, 60)).tells(t, impl.Event{Kind: evEra, At: 3}, 3, 1)
	s.at(1, 6).trim(at(1, 5)).tells(t, impl.Event{Kind: evEra, At: 2}, 2, 1)
	s.at(4, 61).trim(at(4, 60)).stays(t, rdWait)
	s.at(5, 61).trim(at(5, 60)).stays(t, rdWait)
	s.at(5, 1).trim(at(4, 60)).tells(t, impl.Event{Kind: evLoss, At: at(5, 1)}, 5, 2)
	s.at(6, 1).trim(at(5, 60)).stays(t, rdWait)
}

// Every place against every place that may be given up; the next step is never given up again.
func TestNextTrimEvery(t *testing.T) {
	s := fiveStep().upTo(60)
	for epoch := 1; epoch <= 5; epoch++ {
		for off := 1; off <= lastOff+1; off++ {
			for trimEpoch := 1; trimEpoch <= 5; trimEpoch++ {
				for _, trimOff := range []int{1, 2, off - 1, off, off + 1, 59, 60} {
					if trimOff < 1 || trimOff > lastOff {
						continue
					}
					here := s.at(epoch, off).trim(at(trimEpoch, trimOff))
					here.check(t)
					next, code := here.ask()
					if before := trimEpoch < epoch || trimEpoch == epoch && trimOff < off; before {
						continue
					}
					if code != rdDone || next.Out[3].Kind != evTrim || next.Epoch != trimEpoch || next.Off != trimOff+1 {
						t.Fatalf("%v: %v, %d", here, next, code)
					}
					here.reader = next
					if again, code := here.ask(); code == rdDone && again.Out[4].Kind == evTrim {
						t.Fatalf("%v is given up twice", here)
					}
				}
			}
		}
	}
}

func TestNextClosed(t *testing.T) {
	for last := 0; last <= lastOff; last++ {
		s := fiveStep()
		s.reg.Eras[0].Last, s.reg.Eras[1].Last, s.reg.Eras[2].Last = last, last, last
		for epoch := 1; epoch <= 3; epoch++ {
			for _, off := range []int{1, last - 1, last, last + 1, last + 2, lastOff, lastOff + 1} {
				if off < 1 || off > lastOff+1 {
					continue
				}
				for _, sure := range []int{math.MinInt, -1, 0, off - 1, off, off + 1, lastOff, lastOff + 1, math.MaxInt} {
					here := s.at(epoch, off).upTo(sure)
					if off > last {
						here.tells(t, impl.Event{Kind: evEra, At: epoch + 1}, epoch+1, 1)
						here.from().tells(t, impl.Event{Kind: evEra, At: epoch + 1}, epoch+1, 1)
						here.from(nothingFrom(2)...).tells(t, impl.Event{Kind: evEra, At: epoch + 1}, epoch+1, 1)
						here.from(allHave(impl.Entry{At: at(epoch, 1), Data: "a"}, 0, 1, 2, 3)...).tells(t, impl.Event{Kind: evEra, At: epoch + 1}, epoch+1, 1)
						continue
					}
					here.tells(t, impl.Event{Kind: evLoss, At: at(epoch, off)}, epoch, off+1)
					here.from().stays(t, rdFew)
				}
			}
		}
	}
}

// The longest register: the last epoch that can be closed leads to the last one there is.
func TestNextClosedLast(t *testing.T) {
	c := conf(1, 5)
	g := impl.Register{}
	for range lastEpoch - 1 {
		g.Eras = append(g.Eras, closedEra(0, 0))
	}
	g.Eras = append(g.Eras, openEra(0))
	s := readStep{config: c, reg: g, reader: impl.ReaderNew()}
	for epoch := 1; epoch < lastEpoch; epoch++ {
		s.tells(t, impl.Event{Kind: evEra, At: epoch + 1}, epoch+1, 1)
		s.reader, _ = s.ask()
	}
	s.stays(t, rdWait)
	s.upTo(1).stays(t, rdFew)
	s.upTo(1).from(nothingFrom(0)...).tells(t, impl.Event{Kind: evLoss, At: at(lastEpoch, 1)}, lastEpoch, 2)
	s.trim(at(lastEpoch, lastOff)).tells(t, impl.Event{Kind: evTrim, At: at(lastEpoch, lastOff)}, lastEpoch, lastOff+1)
	s.at(lastEpoch, lastOff+1).upTo(math.MaxInt).stays(t, rdWait)
	s.at(lastEpoch+1, 1).upTo(math.MaxInt).stays(t, rdWait)
	s.at(lastEpoch+1, 1).trim(at(lastEpoch, lastOff)).stays(t, rdWait)
}

func TestNextOpen(t *testing.T) {
	s := fiveStep()
	for epoch := 4; epoch <= 5; epoch++ {
		for off := 1; off <= lastOff; off++ {
			here := s.at(epoch, off)
			for _, sure := range []int{off, off + 1, lastOff, lastOff + 1, epochStep, at(4, 1), math.MaxInt - 1, math.MaxInt} {
				if sure < off {
					continue
				}
				here.upTo(sure).tells(t, impl.Event{Kind: evLoss, At: at(epoch, off)}, epoch, off+1)
				here.upTo(sure).from().stays(t, rdFew)
				here.upTo(sure).from(nothingFrom(0, 1)...).stays(t, rdFew)
			}
			for _, sure := range []int{math.MinInt, math.MinInt + 1, -epochStep + off, -off, -1, 0, off - 2, off - 1} {
				if sure >= off {
					continue
				}
				here.upTo(sure).stays(t, rdWait)
				here.upTo(sure).from().stays(t, rdWait)
				here.upTo(sure).from(nothingFrom(0, 1)...).stays(t, rdWait)
				here.upTo(sure).from(allHave(impl.Entry{At: at(epoch, off), Data: "a"}, 0, 1, 2, 3)...).stays(t, rdWait)
			}
		}
	}
}

// Behind the last offset there is no place: a closed epoch is left, an open one is not, however much is said to be sure.
func TestNextBehindLastOffset(t *testing.T) {
	s := fiveStep()
	for _, sure := range []int{math.MinInt, 0, 59, 60, 61, 62, 1000, epochStep, math.MaxInt} {
		for _, list := range [][]impl.Answer{nil, nothingFrom(2), nothingFrom(0, 1, 2, 3), allHave(impl.Entry{At: at(4, 61), Data: "a"}, 0, 1, 2, 3), allHave(impl.Entry{At: at(4, 60), Data: "a"}, 2, 3), allHave(impl.Entry{At: at(5, 1), Data: "a"}, 2, 3)} {
			here := s.upTo(sure).from(list...)
			here.at(3, lastOff+1).tells(t, impl.Event{Kind: evEra, At: 4}, 4, 1)
			here.at(1, lastOff+1).tells(t, impl.Event{Kind: evEra, At: 2}, 2, 1)
			here.at(4, lastOff+1).stays(t, rdWait)
			here.at(5, lastOff+1).stays(t, rdWait)
		}
	}
}

// Every set of nodes of the epoch and every list: RdFew just where the list, as far as it is of the set, is not enough.
func TestNextEnoughEvery(t *testing.T) {
	for _, c := range append(registerConfigs(), conf(2, 3, 3, 3, 4), conf(1, 0, 1, 0), conf(2, 0, 1, 2, 3, 4)) {
		size := len(c.Domains)
		sets := heldLists(c)
		if size == mostNodes {
			sets = [][]int{nodesUpTo(size), {0, 1, 2, 3}, {0, 2, 4, 6}, {1, 3, 4, 5, 7}}
		}
		for _, set := range sets {
			s := readStep{config: c, reg: impl.Register{Eras: []impl.Era{openEra(set...)}}, sure: 1, reader: readerAt(1, 1, 2)}
			for mask := range 1 << size {
				list := nodesOf(mask)
				within := slices.DeleteFunc(slices.Clone(list), func(n int) bool { return !slices.Contains(set, n) })
				here := s.from(nothingFrom(list...)...)
				if isEnough(c, set, within) {
					here.tells(t, impl.Event{Kind: evLoss, At: at(1, 1)}, 1, 2)
				} else {
					here.stays(t, rdFew)
				}
			}
		}
	}
}

func TestNextEnoughKnown(t *testing.T) {
	s := fiveStep().upTo(60)
	loss := func(epoch int) impl.Event { return impl.Event{Kind: evLoss, At: at(epoch, 1)} }
	// Of the nodes 0 to 3: what is left over must be of one domain.
	for _, nodes := range [][]int{{2, 3}, {0, 1, 2}, {0, 1, 3}, {0, 2, 3}, {1, 2, 3}, {0, 1, 2, 3}} {
		s.from(nothingFrom(nodes...)...).tells(t, loss(1), 1, 2)
		s.at(4, 1).from(nothingFrom(nodes...)...).tells(t, loss(4), 4, 2)
	}
	for _, nodes := range [][]int{nil, {0}, {1}, {2}, {3}, {0, 1}, {0, 2}, {0, 3}, {1, 2}, {1, 3}} {
		s.from(nothingFrom(nodes...)...).stays(t, rdFew)
		s.at(4, 1).from(nothingFrom(nodes...)...).stays(t, rdFew)
	}
	// Of 2 and 3: one of them is enough, and 0 and 1 do not count.
	for _, nodes := range [][]int{{2}, {3}, {2, 3}, {0, 2}, {0, 1, 3}, {0, 1, 2, 3}} {
		s.at(5, 1).from(nothingFrom(nodes...)...).tells(t, loss(5), 5, 2)
	}
	for _, nodes := range [][]int{nil, {0}, {1}, {0, 1}} {
		s.at(5, 1).from(nothingFrom(nodes...)...).stays(t, rdFew)
		s.at(5, 1).from(allHave(impl.Entry{At: at(5, 1), Data: "a"}, nodes...)...).stays(t, rdFew)
	}
	// Of 1, 2 and 3: two of them, and 0 does not count though it is of the same domain as 1.
	for _, nodes := range [][]int{{1, 2}, {1, 3}, {2, 3}, {0, 1, 2}, {1, 2, 3}} {
		s.at(3, 1).from(nothingFrom(nodes...)...).tells(t, loss(3), 3, 2)
	}
	for _, nodes := range [][]int{nil, {1}, {2}, {3}, {0, 1}, {0, 2}, {0, 3}} {
		s.at(3, 1).from(nothingFrom(nodes...)...).stays(t, rdFew)
		s.at(3, 1).from(allHave(impl.Entry{At: at(3, 1), Data: "a"}, nodes...)...).stays(t, rdFew)
	}
}

// Those that have nothing, or nothing that is right, count as nodes all the same.
func TestNextEnoughOfWhatever(t *testing.T) {
	s := fiveStep().upTo(60).at(4, 1)
	good := impl.Entry{At: at(4, 1), Data: "a"}
	for _, other := range []impl.Answer{{Node: 3}, {Node: 3, Entry: good}, has(3, impl.Entry{}), has(3, impl.Entry{At: at(4, 2), Data: "b"}), has(3, impl.Entry{At: at(4, 1), Wave: 4})} {
		s.from(has(2, good), other).tells(t, impl.Event{Kind: evData, At: at(4, 1), Data: "a"}, 4, 2)
	}
	s.from(has(2, good)).stays(t, rdFew)
	s.from(has(0, good), has(1, good), has(3, impl.Entry{})).tells(t, impl.Event{Kind: evData, At: at(4, 1), Data: "a"}, 4, 2)
}

// What nodes tell that are not of the epoch is not heard, however good it is.
func TestNextOtherNodes(t *testing.T) {
	s := fiveStep().upTo(60).at(5, 1)
	better := impl.Entry{At: at(5, 1), Wave: 30, Data: "better"}
	hole := impl.Entry{At: at(5, 1), Wave: 29, Hole: true}
	old := impl.Entry{At: at(5, 1), Data: "old"}
	s.from(has(0, better), has(1, hole), has(2, old)).tells(t, impl.Event{Kind: evData, At: at(5, 1), Data: "old"}, 5, 2)
	s.from(has(0, better), has(1, hole), impl.Answer{Node: 2}).tells(t, impl.Event{Kind: evLoss, At: at(5, 1)}, 5, 2)
	s.from(has(0, better), has(1, hole), impl.Answer{Node: 2}, has(3, hole)).tells(t, impl.Event{Kind: evHole, At: at(5, 1)}, 5, 2)
	s.from(has(0, old), has(2, better)).tells(t, impl.Event{Kind: evData, At: at(5, 1), Data: "better"}, 5, 2)
	third := s.at(3, 7)
	early := impl.Entry{At: at(3, 7), Wave: 9, Data: "of no node"}
	third.from(has(0, early), has(1, impl.Entry{At: at(3, 7), Wave: 4, Data: "of one"}), impl.Answer{Node: 2}).tells(t, impl.Event{Kind: evData, At: at(3, 7), Data: "of one"}, 3, 8)
}

// Each row of waves, in any order: the first of those with the greatest one is told; Data tells which it is.
func TestNextBest(t *testing.T) {
	c := conf(1, 0, 1, 2, 3, 4)
	s := readStep{config: c, reg: impl.Register{Eras: []impl.Era{closedEra(1, 0), closedEra(60, 0, 1, 2, 3, 4), openEra(4)}}, reader: readerAt(2, 9, 1)}
	for _, row := range rowsOfWaves(5, []int{0, 3, 4, 30}) {
		var list, holes []impl.Answer
		for i, wave := range row {
			list = append(list, has(i, impl.Entry{At: at(2, 9), Wave: wave, Data: fmt.Sprint("of ", i)}))
			// The holes are at every other node, where there may be one.
			e := list[i]
			if i%2 == 0 && wave > 0 {
				e.Entry.Hole, e.Entry.Data = true, ""
			}
			holes = append(holes, e)
		}
		best := slices.Index(row, slices.Max(row))
		s.from(list...).tells(t, impl.Event{Kind: evData, At: at(2, 9), Data: fmt.Sprint("of ", best)}, 2, 10)
		want := impl.Event{Kind: evData, At: at(2, 9), Data: fmt.Sprint("of ", best)}
		if holes[best].Entry.Hole {
			want = impl.Event{Kind: evHole, At: at(2, 9)}
		}
		s.from(holes...).tells(t, want, 2, 10)
		// Without what the best one has, the next best is told.
		list[best].Has = false
		row[best] = -1
		next := slices.Index(row, slices.Max(row))
		s.from(list...).tells(t, impl.Event{Kind: evData, At: at(2, 9), Data: fmt.Sprint("of ", next)}, 2, 10)
	}
}

func TestNextHoles(t *testing.T) {
	s := fiveStep().at(1, 2)
	place := at(1, 2)
	data := func(wave int, text string) impl.Entry { return impl.Entry{At: place, Wave: wave, Data: text} }
	hole := func(wave int) impl.Entry { return impl.Entry{At: place, Wave: wave, Hole: true} }
	isHole := impl.Event{Kind: evHole, At: place}
	isData := func(text string) impl.Event { return impl.Event{Kind: evData, At: place, Data: text} }
	for _, row := range []struct {
		two, three impl.Entry
		want       impl.Event
	}{
		{data(0, "a"), hole(2), isHole}, {hole(2), data(0, "a"), isHole}, {data(3, "a"), hole(2), isData("a")}, {hole(2), data(3, "a"), isData("a")},
		{data(2, "a"), hole(2), isData("a")}, {hole(2), data(2, "a"), isHole}, {hole(2), hole(3), isHole}, {hole(30), data(29, "a"), isHole}, {hole(29), data(30, "a"), isData("a")},
		{data(0, ""), data(0, "b"), isData("")}, {data(2, ""), data(0, "b"), isData("")}, {data(0, ""), hole(2), isHole}, {hole(2), data(3, ""), isData("")}, {data(0, "a"), data(0, "b"), isData("a")}, {data(0, "a"), data(2, "b"), isData("b")},
	} {
		s.from(has(2, row.two), has(3, row.three)).tells(t, row.want, 1, 3)
		s.from(has(0, row.two), has(2, row.three), impl.Answer{Node: 3}).tells(t, row.want, 1, 3)
		s.from(impl.Answer{Node: 0, Entry: data(30, "not told")}, has(2, row.two), has(3, row.three)).tells(t, row.want, 1, 3)
	}
}

// What is told has the bytes as they are.
func TestNextData(t *testing.T) {
	s := fiveStep().at(1, 5)
	for _, text := range someData() {
		e := impl.Entry{At: at(1, 5), Data: text}
		s.from(has(2, e), impl.Answer{Node: 3}).tells(t, impl.Event{Kind: evData, At: at(1, 5), Data: text}, 1, 6)
	}
	for _, text := range tooMuchData() {
		e := impl.Entry{At: at(1, 5), Wave: 7, Data: text}
		s.from(has(2, e), has(3, e)).tells(t, impl.Event{Kind: evLoss, At: at(1, 5)}, 1, 6)
	}
}

// What is not an entry, or one of another place, is as nothing; what is right beside it is told.
func TestNextNotEntries(t *testing.T) {
	s := fiveStep().upTo(60)
	good := impl.Entry{At: at(4, 3), Data: "good"}
	wrong := badEntries()
	for i := range wrong {
		// These are wrong at 2.3; moved to where the reader is, they are wrong for what else they are.
		if wrong[i].At == at(2, 3) {
			wrong[i].At = at(4, 3)
		}
	}
	wrong = append(wrong, impl.Entry{At: at(4, 3), Wave: 3}, impl.Entry{At: at(4, 3), Wave: 4}, impl.Entry{At: at(4, 3), Wave: 4, Hole: true}, impl.Entry{At: at(4, 3), Wave: 31, Hole: true})
	for _, place := range []int{at(4, 2), at(4, 4), at(3, 3), at(5, 3), at(1, 3), at(4, 60), at(30, 3)} {
		wrong = append(wrong, impl.Entry{At: place, Data: "elsewhere"}, impl.Entry{At: place, Wave: place/epochStep + 1, Data: "elsewhere"}, impl.Entry{At: place, Wave: 30, Hole: true})
	}
	for _, e := range wrong {
		if isEntry(e) && e.At == at(4, 3) {
			continue
		}
		here := s.at(4, 3)
		here.from(allHave(e, 2, 3)...).tells(t, impl.Event{Kind: evLoss, At: at(4, 3)}, 4, 4)
		here.from(has(0, e), impl.Answer{Node: 2}, has(3, e)).tells(t, impl.Event{Kind: evLoss, At: at(4, 3)}, 4, 4)
		here.from(has(2, e), has(3, good)).tells(t, impl.Event{Kind: evData, At: at(4, 3), Data: "good"}, 4, 4)
		here.from(has(2, good), has(3, e)).tells(t, impl.Event{Kind: evData, At: at(4, 3), Data: "good"}, 4, 4)
		here.from(has(2, e)).stays(t, rdFew)
	}
}

func TestNextLoss(t *testing.T) {
	s := fiveStep().upTo(60)
	for epoch := 1; epoch <= 5; epoch++ {
		off := 3
		if epoch == 2 {
			continue
		}
		good := impl.Entry{At: at(epoch, off), Wave: 30, Data: "not told"}
		for _, list := range [][]impl.Answer{nothingFrom(0, 1, 2, 3), nothingFrom(2, 3), nothingFrom(1, 2, 3), {{Node: 2, Entry: good}, {Node: 3, Entry: good}}, {has(2, impl.Entry{}), {Node: 3, Entry: good}}} {
			s.at(epoch, off).from(list...).tells(t, impl.Event{Kind: evLoss, At: at(epoch, off)}, epoch, off+1)
		}
	}
}

// A reader that was told nothing, with all that it told: each event, and its own numbers.
func TestNextStaysWhole(t *testing.T) {
	for _, told := range []int{0, 1, 50, mostOut - 1, mostOut} {
		for _, place := range [][2]int{{4, 1}, {4, 60}, {4, 61}, {5, 33}, {6, 1}, {31, 61}} {
			s := fiveStep().at(place[0], place[1])
			s.reader.Out = someEvents(told)
			s.stays(t, rdWait)
			few := s.upTo(60).from(nothingFrom(0, 1)...)
			if place[0] <= 5 && place[1] <= lastOff && told < mostOut {
				few.stays(t, rdFew)
			} else {
				few.stays(t, rdWait)
			}
		}
	}
}

// readLists has lists of answers for a place: enough and too few, with nothing, with what is right and what is not.
func readLists(c impl.Config, epoch int, off int) [][]impl.Answer {
	place := at(epoch, off)
	lists := [][]impl.Answer{nil, {}}
	for i, nodes := range append(slices.Concat(heldLists(c), unheldLists(c))[:min(12, 1<<len(c.Domains))], nodesUpTo(len(c.Domains))) {
		list := nothingFrom(nodes...)
		for j := range list {
			wave := (epoch + 1 + (i+j)%4) * (j % 2)
			list[j].Has = (i+j)%5 != 0
			list[j].Entry = impl.Entry{At: place, Wave: wave, Data: fmt.Sprint(i, j)}
			switch (i * j) % 7 {
			case 3:
				list[j].Entry = impl.Entry{At: place, Wave: wave, Hole: true}
			case 5:
				list[j].Entry.At++
			}
		}
		lists = append(lists, list)
	}
	return lists
}

// All that comes first or later, against the model.
func TestNextGrid(t *testing.T) {
	t.Parallel()
	for _, c := range registerConfigs()[:2] {
		for _, g := range someRegisters(c) {
			size := len(g.Eras)
			for _, epoch := range []int{1, 2, size / 2, size - 1, size, size + 1, lastEpoch + 1} {
				for _, off := range []int{0, 1, 2, 30, 31, 59, 60, 61} {
					lists := readLists(c, epoch, off)
					for k, sure := range []int{-1, 0, off - 1, off, math.MaxInt} {
						for l := k; l < len(lists); l += 4 {
							readStep{c, g, sure, readerAt(epoch, off, []int{4, 0, mostOut}[l%3]), lists[l]}.check(t)
						}
					}
				}
			}
		}
	}
}

// checkGrown is promise 10 of one step: what was told stands as it was told, and only with RdDone one event more does, further on.
func checkGrown(t *testing.T, s readStep, after impl.Reader, code int) {
	t.Helper()
	before := s.reader
	if code == rdBad || !impl.ReaderOk(after) {
		t.Fatalf("%v: %v, %d", s, after, code)
	}
	if code != rdDone {
		if !sameReader(after, before) {
			t.Fatalf("%v: %d, and it became %v", s, code, after)
		}
		return
	}
	if slices.Compare([]int{after.Epoch, after.Off}, []int{before.Epoch, before.Off}) <= 0 {
		t.Fatalf("%v went back: %d.%d", s, after.Epoch, after.Off)
	}
	if len(after.Out) != len(before.Out)+1 || !slices.Equal(after.Out[:len(before.Out)], before.Out) {
		t.Fatalf("%v told %v behind %v", s, after.Out, before.Out)
	}
	if k := after.Out[len(before.Out)].Kind; k < evData || k > evTrim {
		t.Fatalf("%v told an event of kind %d", s, k)
	}
}

// checkAscending asks it of the places at which something was looked for, and asks that no event has more than its kind does.
func checkAscending(t *testing.T, out []impl.Event) {
	t.Helper()
	last := 0
	for _, e := range out {
		if e.Kind != evData && e.Data != "" {
			t.Fatalf("an event with data: %v", e)
		}
		switch e.Kind {
		case evData, evHole, evLoss:
			if e.At <= last || !isPlaceUpTo(e.At, lastEpoch) {
				t.Fatalf("%d was told behind %d", e.At, last)
			}
			last = e.At
		case evTrim:
			if !isPlaceUpTo(e.At, lastEpoch) || e.At < last {
				t.Fatalf("up to %d is given up behind %d", e.At, last)
			}
		}
	}
}

// drawnAnswers has some nodes, often enough of them, with what is often right.
func drawnAnswers(drawn *rand.Rand, c impl.Config, r impl.Reader) []impl.Answer {
	mask := drawn.Intn(1<<len(c.Domains)) | drawn.Intn(1<<len(c.Domains)) | drawn.Intn(1<<len(c.Domains))
	list := nothingFrom(nodesOf(mask)...)
	for i := range list {
		list[i].Has = drawn.Intn(4) > 0
		e := impl.Entry{At: at(r.Epoch, r.Off), Data: fmt.Sprint("d", drawn.Intn(1000))}
		if drawn.Intn(2) == 0 {
			e.Wave = r.Epoch + drawn.Intn(4)
		}
		if drawn.Intn(4) == 0 {
			e.Hole, e.Data = true, ""
		}
		if drawn.Intn(9) == 0 {
			e.At += drawn.Intn(3) - 1
		}
		list[i].Entry = e
	}
	return list
}

// turnedRegister does one thing to a register, or nothing.
func turnedRegister(drawn *rand.Rand, c impl.Config, g impl.Register, r impl.Reader) impl.Register {
	switch drawn.Intn(8) {
	case 0:
		g, _, _ = impl.RegOpen(c, g, nodesOf(drawn.Intn(1<<len(c.Domains))))
	case 1:
		g, _ = impl.RegClose(c, g, len(g.Eras), drawn.Intn(8))
	case 2:
		if drawn.Intn(4) == 0 {
			g, _ = impl.RegTrim(c, g, at(r.Epoch+drawn.Intn(2), min(lastOff, r.Off+drawn.Intn(4))))
		}
	}
	return g
}

// One register that grows, and a reader behind it.
func TestReaderDrawnRows(t *testing.T) {
	t.Parallel()
	kinds, codes := map[int]int{}, map[int]int{}
	full := 0
	for seed := range 120 {
		drawn := rand.New(rand.NewSource(int64(seed)))
		c := registerConfigs()[seed%len(registerConfigs())]
		s := readStep{config: c, reader: impl.ReaderNew()}
		for range 400 {
			s.reg = turnedRegister(drawn, c, s.reg, s.reader)
			s.sure = s.reader.Off + drawn.Intn(5) - 2
			s.list = drawnAnswers(drawn, c, s.reader)
			s.check(t)
			next, code := s.ask()
			checkGrown(t, s, next, code)
			codes[code]++
			if code == rdDone {
				kinds[next.Out[len(next.Out)-1].Kind]++
			}
			s.reader = next
		}
		checkAscending(t, s.reader.Out)
		if len(s.reader.Out) == mostOut {
			full++
		}
	}
	for kind := evData; kind <= evTrim; kind++ {
		if kinds[kind] < 50 {
			t.Errorf("events of kind %d came only %d times", kind, kinds[kind])
		}
	}
	if codes[rdDone] < 2000 || codes[rdWait] < 2000 || codes[rdFew] < 500 || full < 10 {
		t.Errorf("only %v, and %d were full", codes, full)
	}
}

// Another register at each step, which need not be of the one ahead: the reader goes forward all the same.
func TestReaderDrawnRegisters(t *testing.T) {
	for seed := range 100 {
		drawn := rand.New(rand.NewSource(int64(700 + seed)))
		c := registerConfigs()[seed%len(registerConfigs())]
		few := fewRegisters(c)
		s := readStep{config: c, reader: impl.ReaderNew()}
		for range 100 {
			s.reg = cloneRegister(few[drawn.Intn(len(few))])
			if drawn.Intn(12) > 0 {
				s.reg.Trim = 0
			}
			s.sure = drawn.Intn(lastOff + 3)
			s.list = drawnAnswers(drawn, c, s.reader)
			s.check(t)
			next, code := s.ask()
			checkGrown(t, s, next, code)
			s.reader = next
		}
		checkAscending(t, s.reader.Out)
	}
}

// A log from its beginning to its end, of what lies on the nodes.
func TestReaderWhole(t *testing.T) {
	s := fiveStep()
	s.reg = impl.Register{Eras: []impl.Era{closedEra(3, 0, 1, 2, 3), closedEra(0, 0, 2), closedEra(2, 1, 2, 3), openEra(2, 3)}, Trim: at(1, 1)}
	s.reader, s.sure = impl.ReaderNew(), 2
	kept := map[int][]impl.Entry{
		0: {{At: at(1, 2), Data: "late"}, {At: at(1, 1), Data: "given up"}},
		2: {{At: at(1, 2), Wave: 3, Data: "two"}, {At: at(3, 1), Data: "of three"}, {At: at(4, 1), Data: "first"}},
		3: {{At: at(1, 3), Wave: 2, Hole: true}, {At: at(3, 1), Wave: 4, Data: "of three"}, {At: at(4, 2), Data: "second"}, {At: at(4, 3), Data: "not sure"}},
	}
	for range 50 {
		s.list = nothingFrom(0, 2, 3)
		for i, a := range s.list {
			for _, e := range kept[a.Node] {
				if e.At == at(s.reader.Epoch, s.reader.Off) {
					s.list[i] = has(a.Node, e)
				}
			}
		}
		s.check(t)
		next, code := s.ask()
		if code != rdDone {
			break
		}
		s.reader = next
	}
	want := []impl.Event{
		{Kind: evTrim, At: at(1, 1)}, {Kind: evData, At: at(1, 2), Data: "two"}, {Kind: evHole, At: at(1, 3)}, {Kind: evEra, At: 2}, {Kind: evEra, At: 3},
		{Kind: evData, At: at(3, 1), Data: "of three"}, {Kind: evLoss, At: at(3, 2)}, {Kind: evEra, At: 4}, {Kind: evData, At: at(4, 1), Data: "first"}, {Kind: evData, At: at(4, 2), Data: "second"},
	}
	if !sameReader(s.reader, impl.Reader{Epoch: 4, Off: 3, Out: want}) {
		t.Errorf("told %v", s.reader)
	}
	s.stays(t, rdWait)
}

// One open epoch up to its last offset; then a later one closes it, and the reader goes on.
func TestReaderToTheEnd(t *testing.T) {
	c := conf(1, 0)
	s := readStep{config: c, reg: impl.Register{Eras: []impl.Era{openEra(0)}}, sure: math.MaxInt, reader: impl.ReaderNew()}
	for off := 1; off <= lastOff; off++ {
		e := impl.Entry{At: at(1, off), Data: fmt.Sprint(off)}
		s.list = allHave(e, 0)
		s.tells(t, impl.Event{Kind: evData, At: e.At, Data: e.Data}, 1, off+1)
		s.reader, _ = s.ask()
	}
	s.stays(t, rdWait)
	s.reg.Eras = []impl.Era{closedEra(lastOff, 0), openEra(0)}
	s.tells(t, impl.Event{Kind: evEra, At: 2}, 2, 1)
	s.reader, _ = s.ask()
	for off := 1; off < lastOff; off++ {
		s.tells(t, impl.Event{Kind: evLoss, At: at(2, off)}, 2, off+1)
		s.reader, _ = s.ask()
	}
	// 60, 1 and 59 are told.
	s.stays(t, rdWait)
	if len(s.reader.Out) != mostOut {
		t.Errorf("%d are told", len(s.reader.Out))
	}
}

func eventsWithRoom(list []impl.Event) ([]impl.Event, []impl.Event) {
	side := slices.Repeat([]impl.Event{{Kind: -7, At: -8, Data: "room"}}, 9)
	whole := slices.Concat(side[:2], list, side)
	return whole[2 : 2+len(list)], whole
}

func answersWithRoom(list []impl.Answer) ([]impl.Answer, []impl.Answer) {
	side := slices.Repeat([]impl.Answer{{Node: -7, Has: true, Entry: impl.Entry{At: -8, Data: "room"}}}, 9)
	whole := slices.Concat(side[:2], list, side)
	return whole[2 : 2+len(list)], whole
}

// spoilReader writes over all that an answer's memory holds, the spare room too.
func spoilReader(r impl.Reader) {
	out := r.Out[:cap(r.Out)]
	for i := range out {
		out[i] = impl.Event{Kind: -99, At: -98, Data: "spoilt"}
	}
}

func spoilAnswers(list []impl.Answer) {
	list = list[:cap(list)]
	for i := range list {
		list[i] = impl.Answer{Node: -99, Has: true, Entry: impl.Entry{At: -98, Data: "spoilt"}}
	}
}

func (s readStep) clone() readStep {
	return readStep{conf(s.config.Copies, slices.Clone(s.config.Domains)...), cloneRegister(s.reg), s.sure, cloneReader(s.reader), slices.Clone(s.list)}
}

// laidStep has each list of a step between others, with spare room behind it.
type laidStep struct {
	given  readStep
	eras   []impl.Era
	lists  [][]int
	events []impl.Event
	heard  []impl.Answer
}

func layStep(s readStep) laidStep {
	l := laidStep{given: s}
	l.given.reg, l.eras, l.lists = registerWithRoom(s.reg)
	domains, whole := numbersWithRoom(s.config.Domains)
	l.given.config.Domains = domains
	l.lists = append(l.lists, whole)
	l.given.reader.Out, l.events = eventsWithRoom(s.reader.Out)
	l.given.list, l.heard = answersWithRoom(s.list)
	return l
}

func (l laidStep) clone() laidStep {
	return laidStep{l.given.clone(), cloneRegister(impl.Register{Eras: l.eras}).Eras, cloneLists(l.lists), slices.Clone(l.events), slices.Clone(l.heard)}
}

func (l laidStep) is(other laidStep) bool {
	return slices.EqualFunc(l.eras, other.eras, sameEra) && slices.EqualFunc(l.lists, other.lists, slices.Equal[[]int]) && slices.Equal(l.events, other.events) && slices.Equal(l.heard, other.heard)
}

// fewSteps has steps with each code and each kind of event, with nothing, little and as much as can be told.
func fewSteps() []readStep {
	var list []readStep
	s := fiveStep()
	for _, told := range []int{0, 1, 2, 3, 4, 7, 8, 63, 64, 100, mostOut - 1, mostOut, mostOut + 1} {
		s.reader.Out = someEvents(told)
		list = append(list,
			s, s.from(), s.from(nothingFrom(2)...), s.trim(at(1, 1)), s.trim(at(5, 60)), s.at(1, 6), s.at(2, 1), s.at(3, 61), s.at(4, 1), s.at(4, 61), s.at(6, 1), s.at(31, 61),
			s.at(4, 2).upTo(2), s.at(4, 2).upTo(2).from(nothingFrom(0, 2)...), s.at(5, 1).upTo(60).from(nothingFrom(0, 1, 3)...),
			s.from(allHave(impl.Entry{At: at(1, 1), Data: "a"}, 0, 1, 2, 3)...), s.from(allHave(impl.Entry{At: at(1, 1), Wave: 2, Hole: true}, 2, 3)...), s.from(has(0, impl.Entry{At: at(1, 1), Wave: 5, Data: "b"}), has(2, impl.Entry{At: at(1, 1), Wave: 6, Data: "c"}), has(3, impl.Entry{})),
			s.at(3, 1).from(has(0, impl.Entry{At: at(3, 1), Wave: 9, Data: "x"}), has(1, impl.Entry{At: at(3, 1), Data: "y"}), impl.Answer{Node: 2}, impl.Answer{Node: 3}),
			s.at(0, 1), s.at(1, 62), s.from(nothingFrom(3, 2)...), s.from(nothingFrom(2, 3, 4)...), s.trim(-1), s.with(func(s *readStep) { s.config.Copies = 0 }), s.with(func(s *readStep) { s.reg.Eras = s.reg.Eras[:3] }),
		)
	}
	return list
}

func TestReaderFewSteps(t *testing.T) {
	codes, kinds := map[int]int{}, map[int]int{}
	for _, s := range fewSteps() {
		s.check(t)
		r, code := s.want()
		codes[code]++
		if code == rdDone {
			kinds[r.Out[len(r.Out)-1].Kind]++
		}
	}
	if len(codes) != 4 || len(kinds) != 5 {
		t.Errorf("only %v and %v", codes, kinds)
	}
}

// The answers are written over too: what they share with an argument, or with the room behind one, would be seen.
func TestReaderWritesNothing(t *testing.T) {
	for _, s := range fewSteps() {
		laid := layStep(s)
		before := laid.clone()
		got, code := laid.given.ask()
		if !laid.is(before) {
			t.Fatalf("%v wrote into what it was given", s)
		}
		if want, wantCode := s.want(); code != wantCode || !sameReader(got, want) {
			t.Fatalf("%v: %v, %d; want %v, %d", s, got, code, want, wantCode)
		}
		spoilReader(got)
		if !laid.is(before) {
			t.Fatalf("%v answers what it was given", s)
		}
		impl.ReaderOk(laid.given.reader)
		if !laid.is(before) {
			t.Fatalf("ReaderOk wrote into %v", s.reader)
		}
	}
}

// The standing answer is looked at ahead of a third call: that one would write over what is kept.
func TestReaderSharesNothing(t *testing.T) {
	for _, s := range fewSteps() {
		want, _ := s.want()
		one, _ := s.ask()
		two, _ := s.ask()
		spoilReader(one)
		if !sameReader(two, want) {
			t.Fatalf("two answers of %v share memory", s)
		}
		s.check(t)
		fresh := impl.ReaderNew()
		spoilReader(fresh)
		if !sameReader(impl.ReaderNew(), impl.Reader{Epoch: 1, Off: 1}) || !sameReader(two, want) {
			t.Fatalf("ReaderNew shares memory")
		}
	}
}

// An answer stays as it was told, whatever is done to the arguments afterwards; where it is refused too.
func TestReaderAnswerStays(t *testing.T) {
	for _, s := range fewSteps() {
		want, wantCode := s.want()
		laid := layStep(s)
		got, code := laid.given.ask()
		spoilReader(laid.given.reader)
		spoilAnswers(laid.given.list)
		spoilRegister(laid.given.reg)
		spoilNumbers(laid.given.config.Domains)
		fiveStep().at(1, 6).ask()
		if code != wantCode || !sameReader(got, want) {
			t.Fatalf("%v became %v", s, got)
		}
	}
}

// Two steps from one reader that has spare room: what the one told is not written over by the other.
func TestReaderForked(t *testing.T) {
	for _, told := range []int{0, 1, 2, 5, 50, mostOut - 1} {
		s := fiveStep()
		s.reader.Out, _ = eventsWithRoom(someEvents(told))
		// What was answered is forked again: it may have room of its own.
		for range 3 {
			if len(s.reader.Out) >= mostOut {
				break
			}
			one, _ := s.from(allHave(impl.Entry{At: at(s.reader.Epoch, s.reader.Off), Data: "one"}, 2, 3)...).ask()
			two, _ := s.from(allHave(impl.Entry{At: at(s.reader.Epoch, s.reader.Off), Data: "two"}, 2, 3)...).ask()
			three, _ := s.from().ask()
			last := len(s.reader.Out)
			if one.Out[last].Data != "one" || two.Out[last].Data != "two" || len(three.Out) != last {
				t.Fatalf("%v, %v, %v", one.Out[last], two.Out[last], three.Out)
			}
			s.reader = one
		}
	}
}

// A row of answers: each is made of the one ahead, and none is turned by what comes after it.
func TestReaderRowStays(t *testing.T) {
	s := fiveStep()
	s.reader = impl.ReaderNew()
	row := []impl.Reader{s.reader}
	var told []impl.Reader
	for range 40 {
		told = append(told, cloneReader(s.reader))
		next, code := s.ask()
		if code == rdBad {
			t.Fatalf("%v is refused", s)
		}
		row = append(row, next)
		s.reader = next
		for i, r := range told {
			if !sameReader(row[i], r) {
				t.Fatalf("an earlier answer was turned: %v became %v", r, row[i])
			}
		}
	}
}

// One memory may be the domains and the nodes of every era.
func TestReaderOneMemory(t *testing.T) {
	same := []int{0, 1, 2, 3}
	c := impl.Config{Domains: same, Copies: 2}
	g := impl.Register{Eras: []impl.Era{closedEra(3, same...), closedEra(0, same[:2]...), openEra(same...), openEra(same[1:]...)}}
	for epoch := 1; epoch <= 5; epoch++ {
		for off := 1; off <= 5; off++ {
			for _, list := range readLists(c, epoch, off) {
				s := readStep{c, g, 3, readerAt(epoch, off, 4), list}
				want, wantCode := s.clone().want()
				got, code := s.ask()
				if code != wantCode || !sameReader(got, want) {
					t.Fatalf("%v of one memory: %v, %d", s, got, code)
				}
				spoilReader(got)
				if !slices.Equal(same, []int{0, 1, 2, 3}) {
					t.Fatalf("%v wrote into it: %v", s, same)
				}
			}
		}
	}
}

// Nothing is kept from call to call: an answer is the same whatever was asked ahead of it.
func TestReaderAgain(t *testing.T) {
	steps := fewSteps()
	for seed := range 3 {
		for _, i := range rand.New(rand.NewSource(int64(seed))).Perm(len(steps)) {
			steps[i].check(t)
		}
	}
}

// Very long lists are refused as short ones are.
func TestReaderLongLists(t *testing.T) {
	s := fiveStep()
	s.from(nothingFrom(nodesUpTo(70000)...)...).isBad(t)
	s.from(make([]impl.Answer, 70000)...).isBad(t)
	s.reader.Out = make([]impl.Event, 70000)
	s.isBad(t)
	long := readStep{config: conf(1, make([]int, 70000)...), reg: fiveEras(), reader: impl.ReaderNew()}
	long.isBad(t)
	long.config, long.reg.Eras = fiveConfig(), make([]impl.Era, 70000)
	long.isBad(t)
}
