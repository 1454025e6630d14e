package tests

import (
	"fmt"
	"math"
	"math/rand"
	"slices"
	"strconv"
	"strings"
	"testing"

	"loop.example/g00178/impl"
)

// The document's numbers, written out here so that changed constants are seen.
const (
	mostDeeds = 200
	lastKind  = 16

	wdDone    = 0
	wdBad     = 1
	wdNone    = 2
	wdLost    = 3
	wdRefused = 4
	wdWait    = 5
)

func openDeed(mask int) impl.Deed { return impl.Deed{Kind: 1, A: mask} }

func addDeed(writer int, text string) impl.Deed { return impl.Deed{Kind: 2, A: writer, Text: text} }

func storeDeed(writer int, off int, node int) impl.Deed {
	return impl.Deed{Kind: 3, A: writer, B: off, C: node}
}

func syncDeed(node int) impl.Deed { return impl.Deed{Kind: 4, A: node} }

func crashDeed(node int, keep int) impl.Deed { return impl.Deed{Kind: 5, A: node, B: keep} }

func loseDeed(node int) impl.Deed { return impl.Deed{Kind: 6, A: node} }

func fillDeed(node int) impl.Deed { return impl.Deed{Kind: 7, A: node} }

func mendDeed() impl.Deed { return impl.Deed{Kind: 8} }

func sealDeed(node int) impl.Deed { return impl.Deed{Kind: 9, A: node} }

func planDeed() impl.Deed { return impl.Deed{Kind: 10} }

func fixDeed(off int, node int) impl.Deed { return impl.Deed{Kind: 11, B: off, C: node} }

func closeDeed() impl.Deed { return impl.Deed{Kind: 12} }

func trimDeed(place int) impl.Deed { return impl.Deed{Kind: 13, A: place} }

func readDeed(reader int, mask int) impl.Deed { return impl.Deed{Kind: 14, A: reader, B: mask} }

func dropDeed(writer int) impl.Deed { return impl.Deed{Kind: 15, A: writer} }

func pruneDeed(node int) impl.Deed { return impl.Deed{Kind: 16, A: node} }

// namedBy is what a kind names, T for Text; false where there is no such kind.
func namedBy(kind int) (string, bool) {
	names := []string{1: "A", 2: "AT", 3: "ABC", 4: "A", 5: "AB", 6: "A", 7: "A", 8: "", 9: "A", 10: "", 11: "BC", 12: "", 13: "A", 14: "AB", 15: "A", 16: "A"}
	if kind < 1 || kind > lastKind {
		return "", false
	}
	return names[kind], true
}

// isDeed is what DeedOk must answer, by a model of the tests' own.
func isDeed(d impl.Deed) bool {
	names, ok := namedBy(d.Kind)
	for name, isZero := range map[string]bool{"A": d.A == 0, "B": d.B == 0, "C": d.C == 0, "T": d.Text == ""} {
		ok = ok && (isZero || strings.Contains(names, name))
	}
	return ok && len(d.Text) <= mostData
}

func maskedNodes(mask int) []int {
	if mask < 0 || mask > mostMask {
		return nil
	}
	return nodesOf(mask)
}

// reason is why a deed is not done; applies may rely on those ahead of it.
type reason struct {
	code    int
	applies func() bool
}

// reasonsIn has them in the order of the document, by a model of the tests' own.
func reasonsIn(w impl.World, d impl.Deed) []reason {
	c := w.Config
	noWriter := reason{wdNone, func() bool { return d.A < 0 || d.A >= len(w.Writers) }}
	noMend := reason{wdNone, func() bool { return len(w.Mends) == 0 }}
	noEntry := reason{wdNone, func() bool { _, ok := mendEntryIs(w.Mends[0], d.B); return !ok }}
	there := func(node int) []reason {
		return []reason{
			{wdNone, func() bool { return node < 0 || node >= len(c.Domains) }},
			{wdLost, func() bool { return slices.Contains(w.Lost, node) }},
		}
	}
	notOf := func(node int, epoch func() int) reason {
		return reason{wdNone, func() bool { return !slices.Contains(w.Register.Eras[epoch()-1].Nodes, node) }}
	}
	mended := func() int { return w.Mends[0].Epoch }
	unless := func(ok func() bool) reason { return reason{wdRefused, func() bool { return !ok() }} }
	switch d.Kind {
	case 1:
		return []reason{unless(func() bool {
			_, _, ok := openIs(c, w.Register, maskedNodes(d.A))
			return ok && len(w.Writers) < mostWriters
		})}
	case 2:
		return []reason{noWriter, unless(func() bool {
			next, off, ok := addIs(c, w.Writers[d.A], d.Text)
			return ok && len(w.Sent) < mostSent && !slices.ContainsFunc(w.Sent, func(s impl.Sent) bool { return s.At == at(next.Epoch, off) })
		})}
	case 3:
		noWord := reason{wdNone, func() bool { return d.B < 1 || d.B > len(w.Writers[d.A].Words) }}
		of := notOf(d.C, func() int { return w.Writers[d.A].Epoch })
		return slices.Concat([]reason{noWriter, noWord}, there(d.C), []reason{of, unless(func() bool { _, ok := putIs(w.Stores[d.C], wordEntry(w, d.A, d.B)); return ok })})
	case 4:
		return append(there(d.A), unless(func() bool { _, ok := syncIs(w.Stores[d.A]); return ok }))
	case 5:
		return append(there(d.A), unless(func() bool { _, ok := crashIs(w.Stores[d.A], d.B); return ok }))
	case 6:
		return there(d.A)
	case 7:
		return []reason{{wdNone, func() bool { return !slices.Contains(w.Lost, d.A) }}, unless(func() bool { _, ok := filledIs(w, d.A); return ok })}
	case 8:
		return []reason{{wdNone, func() bool { return len(w.Register.Eras) < 2 || firstOpenIs(w.Register) == len(w.Register.Eras) }}, unless(noMend.applies)}
	case 9:
		return slices.Concat([]reason{noMend}, there(d.A), []reason{notOf(d.A, mended), unless(func() bool { _, _, ok := sealedIs(w, d.A); return ok })})
	case 10:
		return []reason{noMend, unless(func() bool {
			_, ok := mendPlanIs(c, w.Mends[0], eraNodesIs(w.Register, mended()))
			return ok
		})}
	case 11:
		return slices.Concat([]reason{noMend, noEntry}, there(d.C), []reason{notOf(d.C, mended), unless(func() bool {
			e, _ := mendEntryIs(w.Mends[0], d.B)
			_, ok := putIs(w.Stores[d.C], e)
			return ok
		})})
	case 12:
		return []reason{noMend, {wdWait, func() bool { return !readyIs(c, w.Mends[0]) }}}
	case 13:
		return []reason{unless(func() bool { _, _, ok := regTrimIs(c, w.Register, d.A); return ok })}
	case 14:
		return []reason{{wdNone, func() bool { return d.A != 0 && d.A != 1 }}, {wdWait, func() bool { _, code := readIs(w, d.A, d.B); return code != rdDone }}}
	case 15:
		return []reason{noWriter}
	}
	return append(there(d.A), unless(func() bool { _, ok := trimIs(w.Stores[d.A], w.Register.Trim); return ok }))
}

func wordEntry(w impl.World, writer int, off int) impl.Entry {
	x := w.Writers[writer]
	return impl.Entry{At: at(x.Epoch, off), Data: x.Words[off-1].Data}
}

func filledIs(w impl.World, node int) (impl.Store, bool) {
	return fillAsk{config: w.Config, stores: w.Stores, lost: w.Lost, node: node, upto: []int{0, len(w.Register.Eras) - 1}[min(1, len(w.Register.Eras))]}.want()
}

func sealedIs(w impl.World, node int) (impl.Store, impl.Mend, bool) {
	m := w.Mends[0]
	s, stored := sealIs(w.Stores[node], m.By-1)
	next, taken := mendSealIs(w.Config, m, node, eraIs(s, m.Epoch))
	return s, next, stored && taken
}

func readIs(w impl.World, reader int, mask int) (impl.Reader, int) {
	r := w.Readers[reader]
	var list []impl.Answer
	for _, node := range maskedNodes(mask) {
		if node < len(w.Stores) && !slices.Contains(w.Lost, node) {
			e, ok := getIs(w.Stores[node], at(r.Epoch, r.Off))
			list = append(list, impl.Answer{Node: node, Has: ok, Entry: e})
		}
	}
	return readStep{config: w.Config, reg: w.Register, sure: sureOfIs(w, r.Epoch), reader: r, list: list}.want()
}

// tellIs goes through what the node has, and not through what is waited for.
func tellIs(w *impl.World, node int) {
	s := w.Stores[node]
	isOf := func(epoch int) bool { return slices.Contains(w.Register.Eras[epoch-1].Nodes, node) }
	for _, e := range s.Kept {
		epoch, off := e.At/epochStep, e.At%epochStep
		for i, x := range w.Writers {
			if x.Epoch != epoch || e.Wave != 0 || epoch <= s.Seal || !isOf(epoch) || off > len(x.Words) || x.Words[off-1].Done {
				continue
			}
			w.Writers[i], _, _ = ackIs(w.Config, x, off, node)
			for j := range w.Sent {
				w.Sent[j].Sure = w.Sent[j].Sure || w.Sent[j].At == e.At && w.Writers[i].Words[off-1].Done
			}
		}
		for i, m := range w.Mends {
			if wanted, ok := mendEntryIs(m, off); ok && wanted == e && isOf(m.Epoch) {
				w.Mends[i], _ = mendAckIs(w.Config, m, off, node)
			}
		}
	}
}

// turnIs is what a deed does that is done, by a model of the tests' own.
func turnIs(w *impl.World, d impl.Deed) {
	c := w.Config
	switch d.Kind {
	case 1:
		w.Register, _, _ = openIs(c, w.Register, maskedNodes(d.A))
		w.Writers, w.Mends = append(w.Writers, impl.Writer{Epoch: len(w.Register.Eras)}), nil
	case 2:
		next, off, _ := addIs(c, w.Writers[d.A], d.Text)
		w.Writers[d.A] = next
		w.Sent = append(w.Sent, impl.Sent{At: at(next.Epoch, off), Data: d.Text})
		slices.SortFunc(w.Sent, func(a impl.Sent, b impl.Sent) int { return a.At - b.At })
	case 3:
		w.Stores[d.C], _ = putIs(w.Stores[d.C], wordEntry(*w, d.A, d.B))
	case 4:
		w.Stores[d.A], _ = syncIs(w.Stores[d.A])
		tellIs(w, d.A)
	case 5:
		w.Stores[d.A], _ = crashIs(w.Stores[d.A], d.B)
	case 6:
		w.Stores[d.A] = impl.Store{}
		w.Lost = append(w.Lost, d.A)
		slices.Sort(w.Lost)
		for i, x := range w.Writers {
			w.Writers[i], _, _ = forgetIs(c, x, d.A)
		}
		for i, m := range w.Mends {
			w.Mends[i], _ = mendForgetIs(c, m, d.A)
		}
		if isHeld(c, w.Lost) {
			w.Torn = true
		}
	case 7:
		w.Stores[d.A], _ = filledIs(*w, d.A)
		w.Lost = slices.DeleteFunc(w.Lost, func(n int) bool { return n == d.A })
	case 8:
		w.Mends = []impl.Mend{{By: len(w.Register.Eras), Epoch: firstOpenIs(w.Register)}}
	case 9:
		w.Stores[d.A], w.Mends[0], _ = sealedIs(*w, d.A)
	case 10:
		w.Mends[0], _ = mendPlanIs(c, w.Mends[0], eraNodesIs(w.Register, w.Mends[0].Epoch))
	case 11:
		e, _ := mendEntryIs(w.Mends[0], d.B)
		w.Stores[d.C], _ = putIs(w.Stores[d.C], e)
	case 12:
		w.Register, _, _ = closeIs(c, w.Register, w.Mends[0].By, len(w.Mends[0].Wrote))
		w.Mends = nil
	case 13:
		w.Register, _, _ = regTrimIs(c, w.Register, d.A)
	case 14:
		w.Readers[d.A], _ = readIs(*w, d.A, d.B)
	case 15:
		w.Writers = slices.Concat(w.Writers[:d.A], w.Writers[d.A+1:])
	case 16:
		w.Stores[d.A], _ = trimIs(w.Stores[d.A], w.Register.Trim)
	}
}

// doIs is what WorldDo must answer: it looks for a reason first, and changes nothing where there is one.
func doIs(w impl.World, d impl.Deed) (impl.World, int) {
	if !isWorld(w) || !isDeed(d) {
		return impl.World{}, wdBad
	}
	next := deepCopy(w)
	for _, r := range reasonsIn(w, d) {
		if r.applies() {
			return next, r.code
		}
	}
	turnIs(&next, d)
	return next, wdDone
}

// checkDo asks the model.
func checkDo(t *testing.T, w impl.World, d impl.Deed) (impl.World, int) {
	t.Helper()
	got, code := impl.WorldDo(w, d)
	want, wantCode := doIs(w, d)
	if code != wantCode || !sameWorld(got, want) {
		t.Fatalf("%+v of %s: %d, %s; the model says %d, %s", d, whole(w), code, whole(got), wantCode, whole(want))
	}
	return got, code
}

// The four below are as the document has it, and not by the model; that one must say the same.

func checkTurns(t *testing.T, w impl.World, d impl.Deed, change func(*impl.World)) impl.World {
	t.Helper()
	got, code := impl.WorldDo(w, d)
	if want := changedWorld(w, change); code != wdDone || !sameWorld(got, want) || !impl.WorldOk(got) {
		t.Fatalf("%+v of %s: %d, %s; want %s", d, whole(w), code, whole(got), whole(want))
	}
	checkDo(t, w, d)
	return got
}

func checkLeaves(t *testing.T, w impl.World, d impl.Deed, want int) {
	t.Helper()
	if got, code := impl.WorldDo(w, d); code != want || !sameWorld(got, w) {
		t.Fatalf("%+v of %s: %d, %s; want %d", d, whole(w), code, whole(got), want)
	}
	checkDo(t, w, d)
}

func checkBadDo(t *testing.T, w impl.World, d impl.Deed) {
	t.Helper()
	if got, code := impl.WorldDo(w, d); code != wdBad || !sameWorld(got, impl.World{}) {
		t.Fatalf("%+v of %s: %d, %s; want zero and WdBad", d, shown(w), code, shown(got))
	}
	checkDo(t, w, d)
}

// after has all of these done, one behind the other.
func after(t *testing.T, w impl.World, list ...impl.Deed) impl.World {
	t.Helper()
	for i, d := range list {
		next, code := checkDo(t, w, d)
		if code != wdDone {
			t.Fatalf("deed %d, %+v of %s: %d", i, d, whole(w), code)
		}
		w = next
	}
	return w
}

// whole is all of a world, as far as it can be read.
func whole(w impl.World) string {
	return fmt.Sprintf("%.1500s", fmt.Sprintf("%+v", w))
}

// checkDeedOk is DeedOk against what is wanted, and the model.
func checkDeedOk(t *testing.T, d impl.Deed, want bool) {
	t.Helper()
	if impl.DeedOk(d) != want || isDeed(d) != want {
		t.Fatalf("DeedOk(%+v): %v, not %v; the model says %v", d, impl.DeedOk(d), want, isDeed(d))
	}
}

func TestDeedLimits(t *testing.T) {
	kinds := []int{impl.DoOpen, impl.DoAdd, impl.DoStore, impl.DoSync, impl.DoCrash, impl.DoLose, impl.DoFill, impl.DoMend, impl.DoSeal, impl.DoPlan, impl.DoFix, impl.DoClose, impl.DoTrim, impl.DoRead, impl.DoDrop, impl.DoPrune}
	if !slices.Equal(kinds, nodesUpTo(lastKind + 1)[1:]) {
		t.Errorf("kinds %v", kinds)
	}
	codes := []int{impl.WdDone, impl.WdBad, impl.WdNone, impl.WdLost, impl.WdRefused, impl.WdWait}
	if !slices.Equal(codes, []int{wdDone, wdBad, wdNone, wdLost, wdRefused, wdWait}) {
		t.Errorf("codes %v", codes)
	}
	if impl.MaxDeeds != mostDeeds {
		t.Errorf("MaxDeeds is %d", impl.MaxDeeds)
	}
}

// someAs are numbers that a deed may have where it names them: any at all.
func someAs() []int {
	return append(wrongNumbers(), 1, 2, 3, 7, at(1, 1), at(30, 60))
}

// Each kind with all that it names, with each of these alone, and with nothing.
func TestDeedOkNamed(t *testing.T) {
	for _, x := range append(someAs(), 0) {
		for _, d := range []impl.Deed{
			openDeed(x), addDeed(x, ""), addDeed(x, "text"), addDeed(0, "text"), storeDeed(x, x, x), storeDeed(x, 0, 0), storeDeed(0, x, 0), storeDeed(0, 0, x), syncDeed(x), crashDeed(x, x), crashDeed(x, 0), crashDeed(0, x),
			loseDeed(x), fillDeed(x), mendDeed(), sealDeed(x), planDeed(), fixDeed(x, x), fixDeed(x, 0), fixDeed(0, x), closeDeed(), trimDeed(x), readDeed(x, x), readDeed(x, 0), readDeed(0, x), dropDeed(x), pruneDeed(x),
		} {
			checkDeedOk(t, d, true)
		}
	}
	for kind := 1; kind <= lastKind; kind++ {
		checkDeedOk(t, impl.Deed{Kind: kind}, true)
	}
}

// Each kind with each of what it does not name, alone, and beside all that it names.
func TestDeedOkNotNamed(t *testing.T) {
	set := map[string]func(*impl.Deed, int){
		"A": func(d *impl.Deed, x int) { d.A = x },
		"B": func(d *impl.Deed, x int) { d.B = x },
		"C": func(d *impl.Deed, x int) { d.C = x },
		"T": func(d *impl.Deed, x int) { d.Text = strings.Repeat("x", 1+x&31) },
	}
	for kind := 1; kind <= lastKind; kind++ {
		names, _ := namedBy(kind)
		for name, change := range set {
			for _, x := range someAs() {
				alone, beside := impl.Deed{Kind: kind}, impl.Deed{Kind: kind}
				for _, other := range names {
					set[string(other)](&beside, 1)
				}
				change(&alone, x)
				change(&beside, x)
				checkDeedOk(t, alone, strings.Contains(names, name))
				checkDeedOk(t, beside, strings.Contains(names, name))
			}
		}
	}
}

func TestDeedOkKind(t *testing.T) {
	for _, kind := range append(wrongNumbers(), nodesUpTo(30)...) {
		checkDeedOk(t, impl.Deed{Kind: kind}, kind >= 1 && kind <= lastKind)
	}
	for _, kind := range []int{math.MinInt, -16, -8, -1, 0, 17, 18, 32, 256 + 8, 1<<32 + 8, math.MaxInt} {
		checkDeedOk(t, impl.Deed{Kind: kind}, false)
		checkDeedOk(t, impl.Deed{Kind: kind, A: 1, B: 1, C: 1, Text: "x"}, false)
		checkDeedOk(t, impl.Deed{Kind: kind, Text: strings.Repeat("x", mostData+1)}, false)
	}
	checkDeedOk(t, impl.Deed{}, false)
}

func TestDeedOkText(t *testing.T) {
	for size := range mostData + 30 {
		for _, writer := range []int{-1, 0, 1, 9} {
			checkDeedOk(t, addDeed(writer, strings.Repeat("x", size)), size <= mostData)
			checkDeedOk(t, addDeed(writer, strings.Repeat("\n", size)), size <= mostData)
		}
		for kind := 1; kind <= lastKind; kind++ {
			checkDeedOk(t, impl.Deed{Kind: kind, Text: strings.Repeat("x", size)}, size == 0 || kind == 2 && size <= mostData)
		}
	}
	for _, data := range someData() {
		checkDeedOk(t, addDeed(0, data), len(data) <= mostData)
	}
	for _, data := range tooMuchData() {
		checkDeedOk(t, addDeed(0, data), false)
	}
	// Bytes are counted, and not letters.
	checkDeedOk(t, addDeed(0, strings.Repeat("\u00e4", 20)), true)
	checkDeedOk(t, addDeed(0, strings.Repeat("\u00e4", 21)), false)
}

// Every kind with every choice of what is not zero.
func TestDeedOkEvery(t *testing.T) {
	for kind := -2; kind <= lastKind+3; kind++ {
		for mask := range 256 {
			d := impl.Deed{Kind: kind, A: []int{0, 1, -1, 9}[mask&3], B: []int{0, 1, -1, 9}[mask>>2&3], C: []int{0, 1, -1, 9}[mask>>4&3], Text: []string{"", "x", strings.Repeat("x", mostData), strings.Repeat("x", mostData+1)}[mask>>6]}
			checkDeedOk(t, d, isDeed(d))
		}
	}
}

// deedsOfAll has some of each kind, for worlds of few nodes and others.
func deedsOfAll() []impl.Deed {
	list := []impl.Deed{mendDeed(), planDeed(), closeDeed()}
	for _, x := range []int{math.MinInt, -1, 0, 1, 2, 3, 4, 5, 7, 8, 1 << 32, math.MaxInt} {
		list = append(list, openDeed(x), addDeed(x, "new"), syncDeed(x), loseDeed(x), fillDeed(x), sealDeed(x), trimDeed(x), dropDeed(x), pruneDeed(x))
		for _, y := range []int{-1, 0, 1, 3, 60, 61, 255} {
			list = append(list, crashDeed(x, y), fixDeed(y, x), readDeed(x, y))
			for _, writer := range []int{-1, 0, 1, 4} {
				list = append(list, storeDeed(writer, y, x))
			}
		}
	}
	for _, mask := range []int{31, 26, 255, 256, 15, 3, 6} {
		list = append(list, openDeed(mask), readDeed(0, mask), readDeed(1, mask))
	}
	for _, place := range []int{at(1, 1), at(1, 2), at(3, 60), at(5, 1), at(5, 61), at(6, 1), at(30, 60), at(0, 1), at(31, 1)} {
		list = append(list, trimDeed(place))
	}
	return append(list, addDeed(0, ""), addDeed(0, strings.Repeat("x", mostData)), crashDeed(1, 2), crashDeed(1, 1<<20-1), crashDeed(1, 1<<20))
}

func badDeeds() []impl.Deed {
	list := []impl.Deed{{}, {Kind: -1}, {Kind: lastKind + 1}, {Kind: math.MinInt}, {Kind: math.MaxInt}, addDeed(0, strings.Repeat("x", mostData+1)), {Kind: 0, A: 7}, {Kind: 17, A: 1, B: 1}}
	for kind := 1; kind <= lastKind; kind++ {
		names, _ := namedBy(kind)
		for _, d := range []impl.Deed{{Kind: kind, A: 1}, {Kind: kind, B: 1}, {Kind: kind, C: 1}, {Kind: kind, Text: "x"}} {
			if !isDeed(d) {
				list = append(list, d)
			}
		}
		if strings.Contains(names, "A") {
			list = append(list, impl.Deed{Kind: kind, A: -1, B: 9, C: 9, Text: "x"})
		}
	}
	return list
}

// A world that is not right is not handed back, whatever is to be done to it, and whatever else would speak against that.
func TestDoBadWorld(t *testing.T) {
	deeds := append(deedsOfAll(), badDeeds()...)
	for i, w := range badWorlds() {
		for j := i % 5; j < len(deeds); j += 5 {
			checkBadDo(t, w, deeds[j])
		}
	}
}

func TestDoBadDeed(t *testing.T) {
	for _, w := range []impl.World{fiveWorld(), mostWorld(), emptyWorld(conf(1, 0)), twoWorld(), mendWorld()} {
		for _, d := range badDeeds() {
			checkBadDo(t, w, d)
		}
	}
}

// Each deed of the list at each of these worlds, against the model.
func TestDoGrid(t *testing.T) {
	t.Parallel()
	codes := map[[2]int]int{}
	worlds := append(someWorlds(), twoWorld(), mendWorld(), plannedWorld(), readyWorld(), lostWorld(), fullWorld())
	for _, w := range worlds {
		for _, d := range deedsOfAll() {
			_, code := checkDo(t, w, d)
			codes[[2]int{d.Kind, code}]++
		}
	}
	checkAllCodes(t, codes, 1)
}

// checkAllCodes asks that each kind had each code that it can have.
func checkAllCodes(t *testing.T, codes map[[2]int]int, least int) {
	t.Helper()
	can := []string{1: "dr", 2: "dnr", 3: "dnlr", 4: "dnlr", 5: "dnlr", 6: "dnl", 7: "dnr", 8: "dnr", 9: "dnlr", 10: "dnr", 11: "dnlr", 12: "dnw", 13: "dr", 14: "dnw", 15: "dn", 16: "dnlr"}
	for kind := 1; kind <= lastKind; kind++ {
		for code, letter := range []string{"d", "b", "n", "l", "r", "w"} {
			count := codes[[2]int{kind, code}]
			if strings.Contains(can[kind], letter) != (count >= least) || count > 0 && !strings.Contains(can[kind], letter) {
				t.Errorf("kind %d had code %d %d times", kind, code, count)
			}
		}
	}
}

// twoWorld has two epochs that are open, of nodes that differ, and words that were not stored yet; node 3 is of the domain of node 0.
func twoWorld() impl.World {
	return deepCopy(impl.World{
		Config:   conf(2, 0, 1, 2, 0),
		Stores:   make([]impl.Store, 4),
		Register: impl.Register{Eras: []impl.Era{openEra(0, 1, 2), openEra(1, 2, 3)}},
		Writers:  []impl.Writer{writerWith(1, openWord("a"), openWord("b")), writerWith(2, openWord("c"))},
		Readers:  []impl.Reader{impl.ReaderNew(), impl.ReaderNew()},
		Sent:     []impl.Sent{{At: at(1, 1), Data: "a"}, {At: at(1, 2), Data: "b"}, {At: at(2, 1), Data: "c"}},
	})
}

// mendWorld has a mend that sealed enough nodes; one of them had the second word only.
func mendWorld() impl.World {
	return changedWorld(twoWorld(), func(w *impl.World) {
		second := impl.Entry{At: at(1, 2), Data: "b"}
		w.Stores[0] = impl.Store{Kept: []impl.Entry{second}, Seal: 1}
		w.Stores[2] = impl.Store{Seal: 1}
		w.Mends = []impl.Mend{{By: 2, Epoch: 1, Sealed: []int{0, 2}, Seen: []impl.Entry{second}}}
	})
}

// plannedWorld is to write a hole and "b"; the hole lies on node 1 already.
func plannedWorld() impl.World {
	return changedWorld(mendWorld(), func(w *impl.World) {
		w.Mends[0].Planned, w.Mends[0].Wrote = true, [][]int{{1}, nil}
		w.Stores[1].Kept = []impl.Entry{{At: at(1, 1), Wave: 2, Hole: true}}
	})
}

func readyWorld() impl.World {
	return changedWorld(plannedWorld(), func(w *impl.World) { w.Mends[0].Wrote = [][]int{{1, 2}, {0, 1}} })
}

// lostWorld has lost node 2, and could lose no other one but node 3 or 0.
func lostWorld() impl.World {
	return changedWorld(mendWorld(), func(w *impl.World) { w.Stores[2], w.Lost = impl.Store{}, []int{2} })
}

// fullWorld has stores that can take no more: of Late, of Kept, and of both; node 3 is lost, and what the others have is too much for it.
func fullWorld() impl.World {
	return changedWorld(twoWorld(), func(w *impl.World) {
		w.Stores[0] = impl.Store{Late: entriesFrom(0, mostLate)}
		w.Stores[1] = impl.Store{Kept: entriesFrom(0, mostKept), Late: []impl.Entry{nthEntry(900)}}
		w.Stores[2] = impl.Store{Kept: entriesFrom(0, mostKept), Late: entriesFrom(300, mostLate)}
		w.Stores[0].Kept = entriesFrom(600, mostKept)
		w.Lost = []int{3}
		w.Mends = []impl.Mend{{By: 2, Epoch: 1}}
	})
}

func TestDeedWorlds(t *testing.T) {
	for _, w := range []impl.World{twoWorld(), mendWorld(), plannedWorld(), readyWorld(), lostWorld(), fullWorld()} {
		checkWorldOk(t, w, true)
	}
}

func TestOpenDeedKnown(t *testing.T) {
	w := emptyWorld(conf(2, 0, 1, 2))
	w = checkTurns(t, w, openDeed(7), func(w *impl.World) {
		w.Register.Eras = []impl.Era{openEra(0, 1, 2)}
		w.Writers = []impl.Writer{{Epoch: 1}}
	})
	w = checkTurns(t, w, openDeed(5), func(w *impl.World) {
		w.Register.Eras = append(w.Register.Eras, openEra(0, 2))
		w.Writers = append(w.Writers, impl.Writer{Epoch: 2})
	})
	checkLeaves(t, w, openDeed(4), wdRefused)
	w = after(t, w, dropDeed(0))
	checkTurns(t, w, openDeed(6), func(w *impl.World) {
		w.Register.Eras = append(w.Register.Eras, openEra(1, 2))
		w.Writers = append(w.Writers, impl.Writer{Epoch: 3})
	})
}

// A mend is of the last epoch; behind a new one there is none, and where it is refused it stays.
func TestOpenDeedEndsMend(t *testing.T) {
	for _, w := range []impl.World{mendWorld(), plannedWorld(), readyWorld(), lostWorld()} {
		checkTurns(t, w, openDeed(3), func(w *impl.World) {
			w.Mends = nil
			w.Register.Eras = append(w.Register.Eras, openEra(0, 1))
			w.Writers = append(w.Writers, impl.Writer{Epoch: 3})
		})
		checkLeaves(t, w, openDeed(9), wdRefused)
		checkLeaves(t, w, openDeed(0), wdRefused)
	}
	w := after(t, readyWorld(), openDeed(3), mendDeed())
	if len(w.Mends) != 1 || !sameMend(w.Mends[0], impl.MendNew(1, 3)) {
		t.Errorf("%v", w.Mends)
	}
}

// Every mask of many configs, and what is none: just those whose nodes hold are taken, lost or not.
func TestOpenDeedMasks(t *testing.T) {
	t.Parallel()
	for _, c := range slices.Concat(smallConfigs(), registerConfigs(), unheldConfigs()) {
		w := emptyWorld(c)
		for mask := range 1 << len(c.Domains) {
			if isHeld(c, nodesOf(mask)) {
				checkTurns(t, w, openDeed(mask), func(w *impl.World) {
					w.Register.Eras, w.Writers = []impl.Era{openEra(nodesOf(mask)...)}, []impl.Writer{{Epoch: 1}}
				})
			} else {
				checkLeaves(t, w, openDeed(mask), wdRefused)
			}
		}
		for _, mask := range append(wrongNumbers(), 1<<len(c.Domains), 256+1, 256+15, -256) {
			if mask < 0 || mask >= 1<<len(c.Domains) {
				checkLeaves(t, w, openDeed(mask), wdRefused)
			}
		}
	}
	after(t, lostWorld(), openDeed(6))
}

func TestOpenDeedWriters(t *testing.T) {
	c := conf(2, 0, 1, 2)
	for size := range mostWriters + 1 {
		w := emptyWorld(c)
		w.Register = registerOf(c, 6, 0, 0)
		w.Writers = writersOf(c, []int{1, 3, 4, 6}[:size]...)
		w.Mends = []impl.Mend{impl.MendNew(1, 6)}
		if size == mostWriters {
			checkLeaves(t, w, openDeed(7), wdRefused)
			checkLeaves(t, w, openDeed(0), wdRefused)
			checkLeaves(t, w, openDeed(-1), wdRefused)
			w = after(t, w, dropDeed(2))
		}
		w = checkTurns(t, w, openDeed(7), func(w *impl.World) {
			w.Register.Eras, w.Mends = append(w.Register.Eras, openEra(0, 1, 2)), nil
			w.Writers = append(w.Writers, impl.Writer{Epoch: 7})
		})
	}
	checkLeaves(t, mostWorld(), openDeed(255), wdRefused)
}

func TestOpenDeedLastEpoch(t *testing.T) {
	c := conf(1, 0, 1)
	w := emptyWorld(c)
	for epoch := 1; epoch <= lastEpoch; epoch++ {
		w = after(t, w, openDeed(1+epoch%3))
		if w.Writers[0].Epoch != epoch || len(w.Register.Eras) != epoch {
			t.Fatalf("epoch %d: %s", epoch, whole(w))
		}
		checkTurns(t, w, dropDeed(0), func(w *impl.World) { w.Writers = nil })
		w.Writers = nil
	}
	checkLeaves(t, w, openDeed(3), wdRefused)
	checkLeaves(t, w, openDeed(0), wdRefused)
	w.Mends = []impl.Mend{impl.MendNew(1, lastEpoch)}
	checkLeaves(t, w, openDeed(3), wdRefused)
}

func TestAddDeedKnown(t *testing.T) {
	w := checkTurns(t, twoWorld(), addDeed(0, "d"), func(w *impl.World) {
		w.Writers[0].Words = append(w.Writers[0].Words, openWord("d"))
		w.Sent = slices.Insert(w.Sent, 2, impl.Sent{At: at(1, 3), Data: "d"})
	})
	w = checkTurns(t, w, addDeed(1, ""), func(w *impl.World) {
		w.Writers[1].Words = append(w.Writers[1].Words, impl.Word{})
		w.Sent = append(w.Sent, impl.Sent{At: at(2, 2)})
	})
	for _, writer := range append(wrongNumbers(), 2, 3, 4) {
		checkLeaves(t, w, addDeed(writer, "x"), wdNone)
	}
	w = after(t, w, dropDeed(0), addDeed(0, "e"))
	if got := w.Sent[len(w.Sent)-1]; got != (impl.Sent{At: at(2, 3), Data: "e"}) {
		t.Errorf("%v", got)
	}
	checkLeaves(t, w, addDeed(1, "x"), wdNone)
	checkLeaves(t, emptyWorld(conf(1, 0)), addDeed(0, "x"), wdNone)
}

func TestAddDeedText(t *testing.T) {
	for size := range mostData + 1 {
		text := strings.Repeat("y", size)
		checkTurns(t, twoWorld(), addDeed(1, text), func(w *impl.World) {
			w.Writers[1].Words = append(w.Writers[1].Words, openWord(text))
			w.Sent = append(w.Sent, impl.Sent{At: at(2, 2), Data: text})
		})
	}
	checkBadDo(t, twoWorld(), addDeed(1, strings.Repeat("y", mostData+1)))
	checkBadDo(t, twoWorld(), addDeed(9, strings.Repeat("y", mostData+1)))
}

func TestAddDeedMostSent(t *testing.T) {
	c := conf(2, 0, 0, 1, 2)
	for size := mostSent - 2; size <= mostSent; size++ {
		w := worldOfSent(3, sentUpTo(2, size)...)
		w.Writers = []impl.Writer{{Epoch: 2}, writerOf(c, 3, "do")}
		w.Sent[0].Sure = true
		if size == mostSent {
			checkLeaves(t, w, addDeed(1, "x"), wdRefused)
			checkLeaves(t, w, addDeed(0, "x"), wdRefused)
			checkLeaves(t, w, addDeed(2, "x"), wdNone)
			continue
		}
		checkTurns(t, w, addDeed(1, "x"), func(w *impl.World) {
			w.Writers[1].Words = append(w.Writers[1].Words, openWord("x"))
			w.Sent = append(w.Sent, impl.Sent{At: at(3, 3), Data: "x"})
		})
	}
}

// No more than MaxOff words, and no more than MaxOpen that are not Done.
func TestAddDeedRefused(t *testing.T) {
	c := conf(2, 0, 1, 2, 0)
	for _, row := range someRows() {
		w := changedWorld(twoWorld(), func(w *impl.World) { w.Writers, w.Sent = []impl.Writer{writerOf(c, 1, row), {Epoch: 2}}, nil })
		if len(row) == lastOff || strings.Count(row, "o") == mostOpen {
			checkLeaves(t, w, addDeed(0, "x"), wdRefused)
		} else {
			checkTurns(t, w, addDeed(0, "x"), func(w *impl.World) {
				w.Writers[0].Words = append(w.Writers[0].Words, openWord("x"))
				w.Sent = []impl.Sent{{At: at(1, len(row)+1), Data: "x"}}
			})
		}
		after(t, w, addDeed(1, "x"))
	}
}

// A place is sent once only: whoever sent it, and whatever it was.
func TestAddDeedSentBefore(t *testing.T) {
	w := changedWorld(twoWorld(), func(w *impl.World) { w.Writers[0].Words = w.Writers[0].Words[:1] })
	checkLeaves(t, w, addDeed(0, "b"), wdRefused)
	checkLeaves(t, w, addDeed(0, "x"), wdRefused)
	w.Sent[1].Sure = true
	checkLeaves(t, w, addDeed(0, "b"), wdRefused)
	w.Sent = slices.Delete(w.Sent, 1, 2)
	checkTurns(t, w, addDeed(0, "x"), func(w *impl.World) {
		w.Writers[0].Words = append(w.Writers[0].Words, openWord("x"))
		w.Sent = slices.Insert(w.Sent, 1, impl.Sent{At: at(1, 2), Data: "x"})
	})
	// What a writer sent that was dropped stays, and hinders no other epoch.
	w = after(t, twoWorld(), dropDeed(0), dropDeed(0), openDeed(7), addDeed(0, "a"))
	if !slices.Equal(w.Sent, append(twoWorld().Sent, impl.Sent{At: at(3, 1), Data: "a"})) {
		t.Errorf("%v", w.Sent)
	}
}

func TestStoreDeedKnown(t *testing.T) {
	w := checkTurns(t, twoWorld(), storeDeed(0, 2, 1), func(w *impl.World) { w.Stores[1].Late = []impl.Entry{{At: at(1, 2), Data: "b"}} })
	w = checkTurns(t, w, storeDeed(0, 1, 1), func(w *impl.World) {
		w.Stores[1].Late = append(w.Stores[1].Late, impl.Entry{At: at(1, 1), Data: "a"})
	})
	w = checkTurns(t, w, storeDeed(1, 1, 1), func(w *impl.World) {
		w.Stores[1].Late = append(w.Stores[1].Late, impl.Entry{At: at(2, 1), Data: "c"})
	})
	// The same word may come again, and one that is Done may, too.
	w.Writers[0].Words[0] = doneWord("a", 0, 1)
	checkTurns(t, w, storeDeed(0, 1, 1), func(w *impl.World) {
		w.Stores[1].Late = append(w.Stores[1].Late, impl.Entry{At: at(1, 1), Data: "a"})
	})
}

// The writer, the word, the node, whether it is there and of the epoch, and what is refused: in this order.
func TestStoreDeedOrder(t *testing.T) {
	w := changedWorld(twoWorld(), func(w *impl.World) {
		w.Stores[1] = impl.Store{Late: entriesFrom(0, mostLate)}
		w.Stores[0], w.Lost = impl.Store{}, []int{0}
		w.Stores[2] = impl.Store{Seal: 1}
	})
	for _, writer := range append(wrongNumbers(), 2, 3) {
		for _, off := range []int{-1, 0, 1, 9} {
			for _, node := range []int{-1, 0, 1, 2, 3, 4} {
				checkLeaves(t, w, storeDeed(writer, off, node), wdNone)
			}
		}
	}
	for _, off := range append(wrongOffs(), 3) {
		for _, node := range []int{-1, 0, 1, 2, 3, 4} {
			checkLeaves(t, w, storeDeed(0, off, node), wdNone)
		}
		checkLeaves(t, w, storeDeed(1, off, 3), wdNone)
	}
	checkLeaves(t, w, storeDeed(1, 2, 3), wdNone)
	for _, node := range append(wrongNumbers(), 4) {
		checkLeaves(t, w, storeDeed(0, 1, node), wdNone)
	}
	// Node 0 is lost: of epoch 1, and for epoch 2 too, of which it is not.
	checkLeaves(t, w, storeDeed(0, 1, 0), wdLost)
	checkLeaves(t, w, storeDeed(1, 1, 0), wdLost)
	// Node 3 is not of epoch 1, whatever it would take.
	checkLeaves(t, w, storeDeed(0, 1, 3), wdNone)
	checkLeaves(t, changedWorld(w, func(w *impl.World) { w.Stores[3].Seal = 9 }), storeDeed(0, 1, 3), wdNone)
	checkLeaves(t, changedWorld(w, func(w *impl.World) { w.Stores[3].Late = entriesFrom(0, mostLate) }), storeDeed(0, 1, 3), wdNone)
	checkLeaves(t, w, storeDeed(0, 1, 1), wdRefused)
	checkLeaves(t, w, storeDeed(0, 1, 2), wdRefused)
	after(t, w, storeDeed(1, 1, 2), storeDeed(1, 1, 3))
}

func TestStoreDeedRefused(t *testing.T) {
	for seal := range lastEpoch + 1 {
		w := changedWorld(twoWorld(), func(w *impl.World) { w.Stores[2].Seal = seal })
		for writer, epoch := range []int{1, 2} {
			if seal >= epoch {
				checkLeaves(t, w, storeDeed(writer, 1, 2), wdRefused)
			} else {
				checkTurns(t, w, storeDeed(writer, 1, 2), func(w *impl.World) { w.Stores[2].Late = []impl.Entry{wordEntry(*w, writer, 1)} })
			}
		}
	}
	w := twoWorld()
	for range mostLate {
		w = after(t, w, storeDeed(0, 1, 1))
	}
	checkLeaves(t, w, storeDeed(0, 1, 1), wdRefused)
	checkLeaves(t, w, storeDeed(0, 2, 1), wdRefused)
	after(t, w, storeDeed(0, 1, 2), syncDeed(1), storeDeed(0, 2, 1))
	// What is Kept may be as much as there can be: it counts when it is to be kept.
	w = changedWorld(fullWorld(), func(w *impl.World) { w.Stores[2].Late = nil })
	after(t, w, storeDeed(0, 1, 2), storeDeed(1, 1, 2))
}

// checkNodes asks a deed of a node alone: at what is no node, and at one that is lost.
func checkNodes(t *testing.T, deed func(int) impl.Deed) {
	t.Helper()
	for _, w := range []impl.World{twoWorld(), mendWorld(), plannedWorld(), lostWorld(), fullWorld()} {
		for _, node := range append(wrongNumbers(), 4, 5) {
			checkLeaves(t, w, deed(node), wdNone)
		}
		for _, node := range w.Lost {
			checkLeaves(t, w, deed(node), wdLost)
		}
	}
}

// storesAre lets a node have these entries: what it keeps, and what came.
func storesAre(w impl.World, node int, kept []impl.Entry, late ...impl.Entry) impl.World {
	return changedWorld(w, func(w *impl.World) { w.Stores[node].Kept, w.Stores[node].Late = kept, late })
}

func TestSyncDeedKnown(t *testing.T) {
	checkNodes(t, syncDeed)
	checkTurns(t, twoWorld(), syncDeed(0), func(*impl.World) {})
	a, b := impl.Entry{At: at(1, 1), Data: "a"}, impl.Entry{At: at(1, 2), Data: "b"}
	w := checkTurns(t, storesAre(twoWorld(), 0, nil, b, a), syncDeed(0), func(w *impl.World) {
		w.Stores[0] = storeWith(a, b)
		w.Writers[0].Words[0].Acks, w.Writers[0].Words[1].Acks = []int{0}, []int{0}
	})
	w = checkTurns(t, storesAre(w, 2, nil, b), syncDeed(2), func(w *impl.World) {
		w.Stores[2] = storeWith(b)
		w.Writers[0].Words[1], w.Sent[1].Sure = doneWord("b", 0, 2), true
	})
	w = checkTurns(t, storesAre(w, 1, nil, a, b), syncDeed(1), func(w *impl.World) {
		w.Stores[1] = storeWith(a, b)
		w.Writers[0].Words[0], w.Sent[0].Sure = doneWord("a", 0, 1), true
	})
	checkTurns(t, w, syncDeed(1), func(*impl.World) {})
}

// A store that would keep too much tells nothing either.
func TestSyncDeedRefused(t *testing.T) {
	for _, node := range []int{0, 1, 2} {
		checkLeaves(t, fullWorld(), syncDeed(node), wdRefused)
	}
	w := changedWorld(twoWorld(), func(w *impl.World) {
		w.Stores[1] = impl.Store{Kept: entriesFrom(0, mostKept), Late: []impl.Entry{nthEntry(3), nthEntry(5)}}
	})
	if w.Stores[1].Kept[0] != (impl.Entry{At: at(1, 1), Data: "n0"}) || w.Stores[1].Kept[60] != (impl.Entry{At: at(2, 1), Data: "n60"}) {
		t.Fatal("the first word of each epoch is not kept")
	}
	checkTurns(t, w, syncDeed(1), func(w *impl.World) {
		w.Stores[1].Late = nil
		w.Writers[0].Words[0].Acks, w.Writers[1].Words[0].Acks = []int{1}, []int{1}
	})
	w.Stores[1].Late = append(w.Stores[1].Late, nthEntry(200))
	checkLeaves(t, w, syncDeed(1), wdRefused)
}

// What lasts is told, whenever it came to last: what a crash kept, and what was there long ago.
func TestSyncDeedTellsWhatLasts(t *testing.T) {
	a, b := impl.Entry{At: at(1, 1), Data: "a"}, impl.Entry{At: at(1, 2), Data: "b"}
	w := after(t, storesAre(twoWorld(), 1, nil, a, b), crashDeed(1, 2))
	if len(w.Writers[0].Words[1].Acks) != 0 {
		t.Fatal("a crash told")
	}
	checkTurns(t, w, syncDeed(1), func(w *impl.World) { w.Writers[0].Words[1].Acks = []int{1} })
	checkTurns(t, storesAre(twoWorld(), 1, []impl.Entry{a}), syncDeed(1), func(w *impl.World) { w.Writers[0].Words[0].Acks = []int{1} })
	checkTurns(t, storesAre(twoWorld(), 1, []impl.Entry{a}, b), syncDeed(1), func(w *impl.World) {
		w.Stores[1] = storeWith(a, b)
		w.Writers[0].Words[0].Acks, w.Writers[0].Words[1].Acks = []int{1}, []int{1}
	})
	// A writer counts a place alone; what lies there is not looked at.
	checkTurns(t, storesAre(twoWorld(), 1, []impl.Entry{{At: at(1, 1), Data: "other"}}), syncDeed(1), func(w *impl.World) { w.Writers[0].Words[0].Acks = []int{1} })
}

// Only writers of epochs above the seal are told.
func TestSyncDeedSeal(t *testing.T) {
	a, c := impl.Entry{At: at(1, 1), Data: "a"}, impl.Entry{At: at(2, 1), Data: "c"}
	for seal := range lastEpoch + 1 {
		w := changedWorld(storesAre(twoWorld(), 1, []impl.Entry{a}, c), func(w *impl.World) { w.Stores[1].Seal = seal })
		checkTurns(t, w, syncDeed(1), func(w *impl.World) {
			w.Stores[1].Kept, w.Stores[1].Late = []impl.Entry{a, c}, nil
			if seal < 1 {
				w.Writers[0].Words[0].Acks = []int{1}
			}
			if seal < 2 {
				w.Writers[1].Words[0].Acks = []int{1}
			}
		})
	}
}

// Only writers of whose epoch the node is are told.
func TestSyncDeedNodes(t *testing.T) {
	a, c := impl.Entry{At: at(1, 1), Data: "a"}, impl.Entry{At: at(2, 1), Data: "c"}
	for node := range 4 {
		checkTurns(t, storesAre(twoWorld(), node, nil, c, a), syncDeed(node), func(w *impl.World) {
			w.Stores[node] = storeWith(a, c)
			if node != 3 {
				w.Writers[0].Words[0].Acks = []int{node}
			}
			if node != 0 {
				w.Writers[1].Words[0].Acks = []int{node}
			}
		})
	}
}

// A wave that mended it is not the writer's; neither is a place that has no word, or that is late in another store.
func TestSyncDeedWaves(t *testing.T) {
	for wave := range lastEpoch + 1 {
		if wave == 1 {
			continue
		}
		e := impl.Entry{At: at(1, 1), Wave: wave, Data: "a"}
		checkTurns(t, storesAre(twoWorld(), 1, nil, e), syncDeed(1), func(w *impl.World) {
			w.Stores[1] = storeWith(e)
			if wave == 0 {
				w.Writers[0].Words[0].Acks = []int{1}
			}
		})
	}
	// The better one is kept, whichever came first.
	plain, better := impl.Entry{At: at(1, 1), Data: "a"}, impl.Entry{At: at(1, 1), Wave: 2, Hole: true}
	for _, late := range [][]impl.Entry{{plain, better}, {better, plain}} {
		checkTurns(t, storesAre(twoWorld(), 1, nil, late...), syncDeed(1), func(w *impl.World) { w.Stores[1] = storeWith(better) })
		checkTurns(t, storesAre(twoWorld(), 1, late[:1], late[1]), syncDeed(1), func(w *impl.World) { w.Stores[1] = storeWith(better) })
	}
	for _, place := range []int{at(1, 3), at(1, 60), at(2, 2), at(3, 1), at(30, 60)} {
		e := impl.Entry{At: place, Data: "x"}
		checkTurns(t, storesAre(twoWorld(), 1, nil, e), syncDeed(1), func(w *impl.World) { w.Stores[1] = storeWith(e) })
	}
	w := storesAre(storesAre(twoWorld(), 1, nil, plain), 2, nil, plain)
	checkTurns(t, w, syncDeed(1), func(w *impl.World) { w.Stores[1], w.Writers[0].Words[0].Acks = storeWith(plain), []int{1} })
}

// A word that is Done gets no more Acks, and what was sent is Sure only where it becomes Done just then.
func TestSyncDeedDone(t *testing.T) {
	a, b := impl.Entry{At: at(1, 1), Data: "a"}, impl.Entry{At: at(1, 2), Data: "b"}
	w := changedWorld(storesAre(twoWorld(), 2, nil, a, b), func(w *impl.World) {
		w.Writers[0].Words[0] = doneWord("a", 0, 1)
		w.Writers[0].Words[1] = openWord("b", 0)
	})
	for _, sure := range []bool{false, true} {
		w.Sent[0].Sure = sure
		checkTurns(t, w, syncDeed(2), func(w *impl.World) {
			w.Stores[2] = storeWith(a, b)
			w.Writers[0].Words[1], w.Sent[1].Sure = doneWord("b", 0, 2), true
		})
	}
	// Acks of nodes of one domain are not enough, and an Ack that is there already changes nothing.
	w = changedWorld(twoWorld(), func(w *impl.World) {
		w.Register.Eras[0] = openEra(0, 1, 2, 3)
		w.Writers[0].Words[0] = openWord("a", 0)
	})
	checkTurns(t, storesAre(w, 3, nil, a), syncDeed(3), func(w *impl.World) { w.Stores[3], w.Writers[0].Words[0].Acks = storeWith(a), []int{0, 3} })
	checkTurns(t, storesAre(w, 0, nil, a), syncDeed(0), func(w *impl.World) { w.Stores[0] = storeWith(a) })
	// Nothing of it was sent: there is nothing to be sure of.
	w.Sent = nil
	checkTurns(t, storesAre(w, 1, nil, a), syncDeed(1), func(w *impl.World) {
		w.Stores[1], w.Writers[0].Words[0] = storeWith(a), doneWord("a", 0, 1)
	})
}

// Several words, of several writers, are told at once.
func TestSyncDeedMany(t *testing.T) {
	c := conf(1, 0, 1)
	w := emptyWorld(c)
	w.Register.Eras = []impl.Era{openEra(0), openEra(0, 1), openEra(1), openEra(0, 1)}
	var kept []impl.Entry
	for epoch := 1; epoch <= 4; epoch++ {
		w.Writers = append(w.Writers, writerOf(c, epoch, doneRow(20, 3, 7, 11, 20)))
		for _, off := range []int{3, 7, 12, 20, 21} {
			kept = append(kept, impl.Entry{At: at(epoch, off), Wave: []int{0, 9}[off/12%2*(epoch%2)]})
			w.Sent = append(w.Sent, impl.Sent{At: at(epoch, off), Data: strconv.Itoa(off)})
		}
	}
	w.Stores[0] = impl.Store{Kept: kept[:7], Late: reversed(kept[7:]), Seal: 1}
	checkTurns(t, w, syncDeed(0), func(w *impl.World) {
		w.Stores[0].Kept, w.Stores[0].Late = kept, nil
		for _, epoch := range []int{2, 4} {
			for i, off := range []int{3, 7, 12, 20} {
				if off != 12 {
					word := w.Writers[epoch-1].Words[off-1]
					w.Writers[epoch-1].Words[off-1] = doneWord(word.Data, 0)
					w.Sent[(epoch-1)*5+i].Sure = true
				}
			}
		}
	})
}

// A mend is told of just what it is to write: no other wave, data or hole.
func TestSyncDeedMend(t *testing.T) {
	hole, b := impl.Entry{At: at(1, 1), Wave: 2, Hole: true}, impl.Entry{At: at(1, 2), Wave: 2, Data: "b"}
	checkTurns(t, storesAre(plannedWorld(), 0, nil, hole, b), syncDeed(0), func(w *impl.World) {
		w.Stores[0].Kept, w.Stores[0].Late = []impl.Entry{hole, b}, nil
		w.Mends[0].Wrote = [][]int{{0, 1}, {0}}
	})
	for _, e := range []impl.Entry{
		{At: at(1, 1), Wave: 3, Hole: true}, {At: at(1, 1), Wave: 2}, {At: at(1, 1), Wave: 2, Data: "b"}, {At: at(1, 2), Wave: 2, Hole: true}, {At: at(1, 2), Wave: 2, Data: "c"}, {At: at(1, 2), Wave: 2}, {At: at(1, 2), Wave: 3, Data: "b"}, {At: at(1, 2), Data: "b"}, {At: at(1, 3), Wave: 2, Data: "b"}, {At: at(2, 2), Data: "b"},
	} {
		w := changedWorld(storesAre(plannedWorld(), 2, nil, e), func(w *impl.World) { w.Writers = nil })
		checkTurns(t, w, syncDeed(2), func(w *impl.World) { w.Stores[2].Kept, w.Stores[2].Late = []impl.Entry{e}, nil })
	}
	// Neither is one that is not planned, and none by a node that is not of its epoch.
	checkTurns(t, storesAre(mendWorld(), 2, nil, hole, b), syncDeed(2), func(w *impl.World) {
		w.Stores[2].Kept, w.Stores[2].Late = []impl.Entry{hole, b}, nil
	})
	checkTurns(t, storesAre(plannedWorld(), 3, nil, hole, b), syncDeed(3), func(w *impl.World) { w.Stores[3] = storeWith(hole, b) })
	// The seal does not count here, and neither does what wrote it: it may have lain there already.
	for seal := range lastEpoch + 1 {
		w := changedWorld(storesAre(plannedWorld(), 2, []impl.Entry{hole}), func(w *impl.World) { w.Stores[2].Seal = seal })
		checkTurns(t, w, syncDeed(2), func(w *impl.World) { w.Mends[0].Wrote[0] = []int{1, 2} })
	}
	checkTurns(t, plannedWorld(), syncDeed(1), func(*impl.World) {})
}

// All offsets of a long mend are told, those that are Kept and only those.
func TestSyncDeedLongMend(t *testing.T) {
	c := conf(2, 0, 1, 2)
	w := worldOfMend(c, 4, 0, plannedMend(1, 4, longRow(lastOff), []int{0, 1, 2}))
	w.Register.Eras[0] = openEra(0, 1, 2)
	var want [][]int
	for off := 1; off <= lastOff; off++ {
		e, ok := impl.MendEntry(w.Mends[0], off)
		if !ok {
			t.Fatal("no entry", off)
		}
		if off%7 == 3 {
			want = append(want, nil)
			continue
		}
		w.Stores[2].Kept = append(w.Stores[2].Kept, e)
		want = append(want, []int{2})
	}
	checkTurns(t, w, syncDeed(2), func(w *impl.World) { w.Mends[0].Wrote = want })
	w.Mends[0].Wrote[59] = []int{0, 1, 2}
	want[59] = []int{0, 1, 2}
	checkTurns(t, w, syncDeed(2), func(w *impl.World) { w.Mends[0].Wrote = want })
}

// Each number that may be kept, and those beyond; nothing is told.
func TestCrashDeedKeep(t *testing.T) {
	checkNodes(t, func(node int) impl.Deed { return crashDeed(node, 0) })
	checkNodes(t, func(node int) impl.Deed { return crashDeed(node, -1) })
	late := []impl.Entry{{At: at(1, 2), Data: "b"}, {At: at(1, 1), Data: "a"}, {At: at(2, 1), Data: "c"}, {At: at(1, 1), Wave: 2, Hole: true}}
	w := storesAre(twoWorld(), 2, nil, late...)
	for keep := range 16 {
		checkTurns(t, w, crashDeed(2, keep), func(w *impl.World) {
			w.Stores[2] = impl.Store{}
			for _, i := range [][]int{{}, {0}, {1}, {1, 0}, {2}, {0, 2}, {1, 2}, {1, 0, 2}, {3}, {3, 0}, {3}, {3, 0}, {3, 2}, {3, 0, 2}, {3, 2}, {3, 0, 2}}[keep] {
				w.Stores[2].Kept = append(w.Stores[2].Kept, late[i])
			}
		})
		checkTurns(t, w, crashDeed(2, keep|1<<19), func(w *impl.World) { w.Stores[2], _ = impl.StoreCrash(w.Stores[2], keep) })
		checkTurns(t, w, crashDeed(1, keep), func(*impl.World) {})
	}
	for _, keep := range []int{math.MinInt, -1 << 20, -2, -1, 1 << 20, 1<<20 + 1, 1 << 21, 1 << 32, math.MaxInt} {
		checkLeaves(t, w, crashDeed(2, keep), wdRefused)
		checkLeaves(t, twoWorld(), crashDeed(2, keep), wdRefused)
		checkLeaves(t, w, crashDeed(4, keep), wdNone)
		checkLeaves(t, lostWorld(), crashDeed(2, keep), wdLost)
	}
	checkTurns(t, twoWorld(), crashDeed(2, 1<<20-1), func(*impl.World) {})
	most := changedWorld(twoWorld(), func(w *impl.World) { w.Stores[2].Late = entriesFrom(0, mostLate) })
	for bit := range mostLate {
		checkTurns(t, most, crashDeed(2, 1<<bit), func(w *impl.World) { w.Stores[2] = storeWith(nthEntry(bit)) })
	}
	checkTurns(t, most, crashDeed(2, 1<<20-1), func(w *impl.World) { w.Stores[2] = storeWith(entriesFrom(0, mostLate)...) })
}

// What would be too much is refused, and all that came is still there.
func TestCrashDeedTooMuch(t *testing.T) {
	checkLeaves(t, fullWorld(), crashDeed(1, 1), wdRefused)
	checkTurns(t, fullWorld(), crashDeed(1, 0), func(w *impl.World) { w.Stores[1].Late = nil })
	checkTurns(t, fullWorld(), crashDeed(1, 2), func(w *impl.World) { w.Stores[1].Late = nil })
	checkLeaves(t, fullWorld(), crashDeed(2, 1<<19), wdRefused)
	w := changedWorld(fullWorld(), func(w *impl.World) { w.Stores[2].Kept = w.Stores[2].Kept[:mostKept-2] })
	checkLeaves(t, w, crashDeed(2, 7), wdRefused)
	checkTurns(t, w, crashDeed(2, 5), func(w *impl.World) {
		w.Stores[2] = storeWith(append(w.Stores[2].Kept, nthEntry(300), nthEntry(302))...)
	})
}

// A crash, and a sync behind it, tell a mend too what lasts.
func TestCrashDeedMend(t *testing.T) {
	hole, b := impl.Entry{At: at(1, 1), Wave: 2, Hole: true}, impl.Entry{At: at(1, 2), Wave: 2, Data: "b"}
	w := checkTurns(t, storesAre(plannedWorld(), 2, nil, hole, b), crashDeed(2, 2), func(w *impl.World) {
		w.Stores[2].Kept, w.Stores[2].Late = []impl.Entry{b}, nil
	})
	checkTurns(t, w, syncDeed(2), func(w *impl.World) { w.Mends[0].Wrote[1] = []int{2} })
}

func TestLoseDeedKnown(t *testing.T) {
	checkNodes(t, loseDeed)
	w := checkTurns(t, plannedWorld(), loseDeed(1), func(w *impl.World) {
		w.Stores[1], w.Lost = impl.Store{}, []int{1}
		w.Mends[0].Wrote[0] = nil
	})
	w = checkTurns(t, w, loseDeed(0), func(w *impl.World) { w.Stores[0], w.Lost, w.Torn = impl.Store{}, []int{0, 1}, true })
	checkLeaves(t, w, loseDeed(0), wdLost)
	checkLeaves(t, w, loseDeed(1), wdLost)
	w = checkTurns(t, w, loseDeed(3), func(w *impl.World) { w.Lost = []int{0, 1, 3} })
	checkTurns(t, w, loseDeed(2), func(w *impl.World) { w.Stores[2], w.Lost = impl.Store{}, []int{0, 1, 2, 3} })
}

// Words that are not Done forget the node, those that are do not; of a mend only Wrote does.
func TestLoseDeedForgets(t *testing.T) {
	w := changedWorld(readyWorld(), func(w *impl.World) {
		w.Config.Copies = 3
		w.Register.Eras = []impl.Era{openEra(0, 1, 2), openEra(1, 2, 3)}
		w.Writers = []impl.Writer{
			writerWith(1, openWord("a", 0, 1), doneWord("b", 0, 1, 2), openWord("c", 1), openWord("d", 0, 3)),
			writerWith(2, openWord("e", 1), doneWord("f", 1, 2, 3)),
		}
		w.Mends[0].Sealed, w.Mends[0].Wrote = []int{0, 1, 2}, [][]int{{0, 1, 2}, {1}}
	})
	checkTurns(t, w, loseDeed(1), func(w *impl.World) {
		w.Stores[1], w.Lost = impl.Store{}, []int{1}
		w.Writers = []impl.Writer{
			writerWith(1, openWord("a", 0), doneWord("b", 0, 1, 2), openWord("c"), openWord("d", 0, 3)),
			writerWith(2, openWord("e"), doneWord("f", 1, 2, 3)),
		}
		w.Mends[0].Wrote = [][]int{{0, 2}, nil}
	})
	checkTurns(t, w, loseDeed(3), func(w *impl.World) {
		w.Stores[3], w.Lost = impl.Store{}, []int{3}
		w.Writers[0].Words[3].Acks = []int{0}
	})
}

// Whatever a node has is gone: what lasts, what came, and its seal.
func TestLoseDeedStores(t *testing.T) {
	for _, s := range someStores() {
		for node := range 4 {
			w := changedWorld(twoWorld(), func(w *impl.World) { w.Stores[node] = s })
			checkTurns(t, w, loseDeed(node), func(w *impl.World) { w.Stores[node], w.Lost = impl.Store{}, []int{node} })
		}
	}
}

// Every set of nodes that are lost, in some orders: torn is it from where on they hold.
func TestLoseDeedTorn(t *testing.T) {
	for i, c := range slices.Concat(smallConfigs(), unheldConfigs(), []impl.Config{conf(4, 0, 1, 2, 3, 4, 5, 6, 7), conf(3, 0, 0, 1, 1, 2, 2, 3, 3)}) {
		drawn := rand.New(rand.NewSource(int64(i)))
		w := emptyWorld(c)
		var lost []int
		torn := false
		for _, node := range drawn.Perm(len(c.Domains)) {
			lost = append(lost, node)
			slices.Sort(lost)
			torn = torn || isHeld(c, lost)
			w = checkTurns(t, w, loseDeed(node), func(w *impl.World) { w.Lost, w.Torn = slices.Clone(lost), torn })
		}
	}
	// Once torn it stays so, also where those that are lost do not hold any more.
	w := changedWorld(twoWorld(), func(w *impl.World) { w.Torn = true })
	w = checkTurns(t, w, loseDeed(2), func(w *impl.World) { w.Lost = []int{2} })
	w = after(t, w, fillDeed(2))
	if !w.Torn {
		t.Error("it is whole again")
	}
}

func TestFillDeedKnown(t *testing.T) {
	five := fiveAsk()
	w := changedWorld(emptyWorld(five.config), func(w *impl.World) {
		w.Stores, w.Lost = five.stores, five.lost
		w.Register = registerOf(five.config, 5, 1, 0)
	})
	checkLeaves(t, w, fillDeed(1), wdNone)
	for _, node := range append(wrongNumbers(), 3, 4, 5) {
		checkLeaves(t, w, fillDeed(node), wdNone)
	}
	w = checkTurns(t, w, fillDeed(2), func(w *impl.World) { w.Stores[2], w.Lost = fiveFilled(), []int{0} })
	checkLeaves(t, w, fillDeed(2), wdNone)
	w = checkTurns(t, w, fillDeed(0), func(w *impl.World) { w.Stores[0], w.Lost = fiveFilled(), nil })
	checkLeaves(t, w, fillDeed(0), wdNone)
}

// It is sealed up to one less than how many epochs there are; with no epoch, as with one, up to none.
func TestFillDeedEpochs(t *testing.T) {
	c := conf(2, 0, 1, 2)
	for size := range lastEpoch + 1 {
		for _, closed := range []int{0, size / 2, size - 1} {
			w := emptyWorld(c)
			w.Register, w.Lost = registerOf(c, size, max(closed, 0), 0), []int{1}
			w.Stores[0] = impl.Store{Kept: entriesFrom(5, 2), Late: entriesFrom(9, 1), Seal: 7}
			w.Stores[2] = impl.Store{Kept: entriesFrom(6, 2), Seal: 30}
			checkTurns(t, w, fillDeed(1), func(w *impl.World) {
				w.Stores[1], w.Lost = impl.Store{Kept: entriesFrom(5, 3), Seal: max(0, size-1)}, nil
			})
		}
	}
}

// Too many are lost, or the others have too much: it is not filled.
func TestFillDeedRefused(t *testing.T) {
	w := after(t, twoWorld(), loseDeed(1), loseDeed(2))
	checkLeaves(t, w, fillDeed(1), wdRefused)
	checkLeaves(t, w, fillDeed(2), wdRefused)
	checkLeaves(t, w, fillDeed(0), wdNone)
	checkLeaves(t, fullWorld(), fillDeed(3), wdRefused)
	checkTurns(t, storesAre(fullWorld(), 0, entriesFrom(0, mostKept)), fillDeed(3), func(w *impl.World) {
		w.Stores[3], w.Lost = impl.Store{Kept: entriesFrom(0, mostKept), Seal: 1}, nil
	})
	for _, c := range unheldConfigs() {
		w := emptyWorld(c)
		w.Lost = nodesUpTo(len(c.Domains))
		checkTurns(t, w, fillDeed(0), func(w *impl.World) { w.Lost = w.Lost[1:] })
	}
	// A mend goes on, and so do writers: what was forgotten is told by a sync only.
	w = changedWorld(plannedWorld(), func(w *impl.World) { w.Writers[1].Words[0].Acks = []int{1} })
	kept := slices.Clone(w.Stores[1].Kept)
	w = after(t, w, loseDeed(1))
	w.Stores[0].Kept = append(slices.Clone(kept), w.Stores[0].Kept...)
	w = checkTurns(t, w, fillDeed(1), func(w *impl.World) { w.Stores[1], w.Lost = impl.Store{Kept: w.Stores[0].Kept, Seal: 1}, nil })
	checkTurns(t, w, syncDeed(1), func(w *impl.World) { w.Mends[0].Wrote[0] = []int{1} })
}

func TestMendDeed(t *testing.T) {
	for _, c := range []impl.Config{conf(2, 0, 1, 2), conf(1, 0)} {
		for size := range lastEpoch + 1 {
			for closed := range max(1, size) {
				w := worldOfMend(c, size, closed)
				if size-closed < 2 {
					checkLeaves(t, w, mendDeed(), wdNone)
					continue
				}
				w = checkTurns(t, w, mendDeed(), func(w *impl.World) { w.Mends = []impl.Mend{{By: size, Epoch: closed + 1}} })
				checkLeaves(t, w, mendDeed(), wdRefused)
			}
		}
	}
	for _, w := range []impl.World{mendWorld(), plannedWorld(), readyWorld(), lostWorld(), fiveWorld()} {
		checkLeaves(t, w, mendDeed(), wdRefused)
	}
}

func TestSealDeedKnown(t *testing.T) {
	a, b, c := impl.Entry{At: at(1, 1), Data: "a"}, impl.Entry{At: at(1, 2), Data: "b"}, impl.Entry{At: at(2, 1), Data: "c"}
	w := changedWorld(storesAre(storesAre(twoWorld(), 1, nil, c, b), 2, []impl.Entry{a}, b), func(w *impl.World) { w.Mends = []impl.Mend{{By: 2, Epoch: 1}} })
	w = checkTurns(t, w, sealDeed(1), func(w *impl.World) {
		w.Stores[1] = impl.Store{Kept: []impl.Entry{b, c}, Seal: 1}
		w.Mends[0].Sealed, w.Mends[0].Seen = []int{1}, []impl.Entry{b}
	})
	checkTurns(t, w, sealDeed(1), func(*impl.World) {})
	w = checkTurns(t, w, sealDeed(2), func(w *impl.World) {
		w.Stores[2] = impl.Store{Kept: []impl.Entry{a, b}, Seal: 1}
		w.Mends[0].Sealed, w.Mends[0].Seen = []int{1, 2}, []impl.Entry{a, b}
	})
	checkTurns(t, w, sealDeed(0), func(w *impl.World) { w.Stores[0].Seal, w.Mends[0].Sealed = 1, []int{0, 1, 2} })
}

// It does not tell: what a seal keeps is told by a sync, and then to no writer of what is sealed.
func TestSealDeedTellsNothing(t *testing.T) {
	a, c := impl.Entry{At: at(1, 1), Data: "a"}, impl.Entry{At: at(2, 1), Data: "c"}
	w := after(t, storesAre(twoWorld(), 1, nil, a, c), mendDeed(), sealDeed(1))
	if !sameWriter(w.Writers[0], twoWorld().Writers[0]) || !sameWriter(w.Writers[1], twoWorld().Writers[1]) {
		t.Fatalf("%v", w.Writers)
	}
	checkTurns(t, w, syncDeed(1), func(w *impl.World) { w.Writers[1].Words[0].Acks = []int{1} })
}

// No mend, no node, a node that is lost, one that is not of the epoch, and what is refused: in this order.
func TestSealDeedOrder(t *testing.T) {
	for _, w := range []impl.World{twoWorld(), changedWorld(lostWorld(), func(w *impl.World) { w.Mends = nil }), emptyWorld(conf(1, 0))} {
		for node := -1; node <= 5; node++ {
			checkLeaves(t, w, sealDeed(node), wdNone)
		}
	}
	for _, w := range []impl.World{mendWorld(), plannedWorld(), readyWorld(), lostWorld()} {
		for _, node := range append(wrongNumbers(), 4) {
			checkLeaves(t, w, sealDeed(node), wdNone)
		}
		checkLeaves(t, w, sealDeed(3), wdNone)
		// It is lost, whether it is of the epoch or not.
		gone := changedWorld(w, func(w *impl.World) {
			w.Stores[2], w.Stores[3] = impl.Store{}, impl.Store{}
			w.Lost, w.Torn = []int{2, 3}, true
		})
		checkLeaves(t, gone, sealDeed(2), wdLost)
		checkLeaves(t, gone, sealDeed(3), wdLost)
	}
	for _, w := range []impl.World{plannedWorld(), readyWorld()} {
		for node := range 3 {
			checkLeaves(t, w, sealDeed(node), wdRefused)
		}
	}
	// Too much in a store that is not of the epoch is not looked at.
	w := changedWorld(fullWorld(), func(w *impl.World) { w.Stores[3], w.Lost = w.Stores[1], nil })
	checkLeaves(t, w, sealDeed(3), wdNone)
}

// Where the store can't be sealed, or the mend can't take what it has, neither is done.
func TestSealDeedRefused(t *testing.T) {
	for node := range 3 {
		checkLeaves(t, fullWorld(), sealDeed(node), wdRefused)
	}
	for wave := 2; wave <= lastEpoch; wave++ {
		late := impl.Entry{At: at(1, 1), Wave: wave, Data: "a"}
		w := changedWorld(storesAre(mendWorld(), 1, nil, late), func(w *impl.World) {
			w.Register.Eras = append(w.Register.Eras, openEra(0, 1), openEra(0, 1))
			w.Mends[0].By = 4
		})
		if wave >= 4 {
			checkLeaves(t, w, sealDeed(1), wdRefused)
			continue
		}
		checkTurns(t, w, sealDeed(1), func(w *impl.World) {
			w.Stores[1] = impl.Store{Kept: []impl.Entry{late}, Seal: 3}
			w.Mends[0].Sealed, w.Mends[0].Seen = []int{0, 1, 2}, append([]impl.Entry{late}, w.Mends[0].Seen...)
		})
	}
}

// The seal is one less than By, if that is more than there is.
func TestSealDeedSeal(t *testing.T) {
	c := conf(1, 0, 1)
	for by := 2; by <= lastEpoch; by += 4 {
		for seal := range lastEpoch + 1 {
			w := worldOfMend(c, by, 0, impl.MendNew(1, by))
			w.Register.Eras[0] = openEra(0, 1)
			w.Stores[1].Seal = seal
			checkTurns(t, w, sealDeed(1), func(w *impl.World) { w.Stores[1].Seal, w.Mends[0].Sealed = max(seal, by-1), []int{1} })
		}
	}
}

func TestPlanDeed(t *testing.T) {
	checkLeaves(t, twoWorld(), planDeed(), wdNone)
	checkLeaves(t, emptyWorld(conf(1, 0)), planDeed(), wdNone)
	checkTurns(t, mendWorld(), planDeed(), func(w *impl.World) { w.Mends[0].Planned, w.Mends[0].Wrote = true, [][]int{nil, nil} })
	checkTurns(t, lostWorld(), planDeed(), func(w *impl.World) { w.Mends[0].Planned, w.Mends[0].Wrote = true, [][]int{nil, nil} })
	checkLeaves(t, plannedWorld(), planDeed(), wdRefused)
	checkLeaves(t, readyWorld(), planDeed(), wdRefused)
	for mask := range 16 {
		w := changedWorld(mendWorld(), func(w *impl.World) { w.Mends[0].Sealed, w.Mends[0].Seen = nodesOf(mask), nil })
		// Node 3 is not of the epoch; of the others one that is not sealed is not enough for an entry.
		if slices.Contains([]int{3, 5, 6, 7}, mask&7) {
			checkTurns(t, w, planDeed(), func(w *impl.World) { w.Mends[0].Planned = true })
		} else {
			checkLeaves(t, w, planDeed(), wdRefused)
		}
	}
}

func TestFixDeedKnown(t *testing.T) {
	hole, b := impl.Entry{At: at(1, 1), Wave: 2, Hole: true}, impl.Entry{At: at(1, 2), Wave: 2, Data: "b"}
	w := checkTurns(t, plannedWorld(), fixDeed(2, 0), func(w *impl.World) { w.Stores[0].Late = []impl.Entry{b} })
	w = checkTurns(t, w, fixDeed(1, 0), func(w *impl.World) { w.Stores[0].Late = []impl.Entry{b, hole} })
	w = checkTurns(t, w, fixDeed(1, 0), func(w *impl.World) { w.Stores[0].Late = []impl.Entry{b, hole, hole} })
	// It is written where it lies already, too.
	checkTurns(t, w, fixDeed(1, 1), func(w *impl.World) { w.Stores[1].Late = []impl.Entry{hole} })
	checkTurns(t, w, syncDeed(0), func(w *impl.World) {
		w.Stores[0].Kept, w.Stores[0].Late = []impl.Entry{hole, b}, nil
		w.Mends[0].Wrote = [][]int{{0, 1}, {0}}
	})
}

// No mend, no entry, no node, a node that is lost, one that is not of the epoch, and what is refused: in this order.
func TestFixDeedOrder(t *testing.T) {
	nodes := []int{-1, 0, 1, 2, 3, 4}
	for _, w := range []impl.World{twoWorld(), changedWorld(lostWorld(), func(w *impl.World) { w.Mends = nil }), mendWorld(), lostWorld(), fullWorld()} {
		for _, off := range []int{-1, 0, 1, 2, 3} {
			for _, node := range nodes {
				checkLeaves(t, w, fixDeed(off, node), wdNone)
			}
		}
	}
	w := changedWorld(plannedWorld(), func(w *impl.World) {
		w.Stores[1].Late = entriesFrom(0, mostLate)
		w.Stores[2], w.Stores[3], w.Lost, w.Torn = impl.Store{}, impl.Store{}, []int{2, 3}, true
		w.Stores[0].Seal = 2
	})
	for _, off := range append(wrongOffs(), 3) {
		for _, node := range nodes {
			checkLeaves(t, w, fixDeed(off, node), wdNone)
		}
	}
	for _, node := range append(wrongNumbers(), 4) {
		checkLeaves(t, w, fixDeed(1, node), wdNone)
	}
	checkLeaves(t, w, fixDeed(1, 2), wdLost)
	checkLeaves(t, w, fixDeed(2, 3), wdLost)
	checkLeaves(t, w, fixDeed(2, 0), wdRefused)
	checkLeaves(t, w, fixDeed(1, 1), wdRefused)
	for _, s := range []impl.Store{{}, {Seal: 9}, {Late: entriesFrom(0, mostLate)}} {
		checkLeaves(t, changedWorld(plannedWorld(), func(w *impl.World) { w.Stores[3] = s }), fixDeed(1, 3), wdNone)
	}
}

func TestFixDeedRefused(t *testing.T) {
	for seal := range lastEpoch + 1 {
		w := changedWorld(plannedWorld(), func(w *impl.World) { w.Stores[2].Seal = seal })
		if seal >= 2 {
			checkLeaves(t, w, fixDeed(2, 2), wdRefused)
		} else {
			checkTurns(t, w, fixDeed(2, 2), func(w *impl.World) { w.Stores[2].Late = []impl.Entry{{At: at(1, 2), Wave: 2, Data: "b"}} })
		}
	}
	w := plannedWorld()
	for range mostLate {
		w = after(t, w, fixDeed(1, 1))
	}
	checkLeaves(t, w, fixDeed(1, 1), wdRefused)
	checkLeaves(t, w, fixDeed(2, 1), wdRefused)
}

func TestCloseDeed(t *testing.T) {
	for _, w := range []impl.World{twoWorld(), emptyWorld(conf(1, 0)), changedWorld(lostWorld(), func(w *impl.World) { w.Mends = nil })} {
		checkLeaves(t, w, closeDeed(), wdNone)
	}
	for _, w := range []impl.World{mendWorld(), plannedWorld(), lostWorld(), fullWorld(), fiveWorld()} {
		checkLeaves(t, w, closeDeed(), wdWait)
	}
	closed := func(w *impl.World) {
		w.Register.Eras[0], w.Mends = closedEra(2, 0, 1, 2), nil
	}
	w := checkTurns(t, readyWorld(), closeDeed(), closed)
	checkLeaves(t, w, closeDeed(), wdNone)
	checkLeaves(t, w, mendDeed(), wdNone)
	for off := range 2 {
		checkLeaves(t, changedWorld(readyWorld(), func(w *impl.World) { w.Mends[0].Wrote[off] = []int{1} }), closeDeed(), wdWait)
		checkLeaves(t, changedWorld(readyWorld(), func(w *impl.World) { w.Mends[0].Wrote[off] = []int{0, 3} }), closeDeed(), wdWait)
		checkTurns(t, changedWorld(readyWorld(), func(w *impl.World) { w.Mends[0].Wrote[off] = []int{2, 3} }), closeDeed(), closed)
	}
	// Nothing was seen: it ends ahead of its first offset.
	w = changedWorld(mendWorld(), func(w *impl.World) { w.Mends[0].Seen = nil })
	checkLeaves(t, w, closeDeed(), wdWait)
	checkTurns(t, after(t, w, planDeed()), closeDeed(), func(w *impl.World) { w.Register.Eras[0], w.Mends = closedEra(0, 0, 1, 2), nil })
	// What was written on nodes that are lost counts where it was not forgotten.
	w = changedWorld(readyWorld(), func(w *impl.World) { w.Stores[2], w.Lost = impl.Store{}, []int{2} })
	checkTurns(t, w, closeDeed(), closed)
}

// Each length that a mend can have is the end of its epoch.
func TestCloseDeedLast(t *testing.T) {
	c := conf(2, 0, 1, 2)
	for last := 1; last <= lastOff; last++ {
		m := writtenMend(3, 7, longRow(last), []int{0, 1}, heldLists(c))
		w := worldOfMend(c, 7, 2, m)
		checkTurns(t, w, closeDeed(), func(w *impl.World) { w.Register.Eras[2].Closed, w.Register.Eras[2].Last, w.Mends = true, last, nil })
		w.Mends[0].Wrote[last/2] = []int{1}
		checkLeaves(t, w, closeDeed(), wdWait)
	}
}

// Epochs are mended one behind the other, up to the last one.
func TestMendDeedsInARow(t *testing.T) {
	w := after(t, emptyWorld(conf(2, 0, 1, 2)), openDeed(7), addDeed(0, "a"), storeDeed(0, 1, 2), openDeed(7), addDeed(1, "b"), storeDeed(1, 1, 1), syncDeed(1), openDeed(3))
	w = after(t, w, mendDeed(), sealDeed(0), sealDeed(1))
	checkLeaves(t, w, closeDeed(), wdWait)
	w = after(t, w, planDeed(), closeDeed())
	if !sameEra(w.Register.Eras[0], closedEra(0, 0, 1, 2)) {
		t.Fatalf("%v", w.Register)
	}
	w = after(t, w, mendDeed(), sealDeed(1), sealDeed(2), planDeed(), fixDeed(1, 1), fixDeed(1, 0), syncDeed(0))
	checkLeaves(t, w, closeDeed(), wdWait)
	w = after(t, w, syncDeed(1), closeDeed())
	if !sameEra(w.Register.Eras[1], closedEra(1, 0, 1, 2)) || len(w.Mends) != 0 {
		t.Fatalf("%v", w.Register)
	}
	checkLeaves(t, w, mendDeed(), wdNone)
	// "a" came to node 2 only, and lasts there: it was sealed behind the plan.
	want := []impl.Entry{{At: at(1, 1), Data: "a"}}
	if !slices.Equal(w.Stores[2].Kept, want) || w.Sent[0].Sure || w.Sent[1].Sure {
		t.Errorf("%s", whole(w))
	}
	w = after(t, w, readDeed(0, 3), readDeed(0, 3), readDeed(0, 5))
	if !slices.Equal(w.Readers[0].Out, []impl.Event{{Kind: evEra, At: 2}, {Kind: evData, At: at(2, 1), Data: "b"}, {Kind: evEra, At: 3}}) {
		t.Errorf("%v", w.Readers[0])
	}
}

func TestTrimDeed(t *testing.T) {
	for _, w := range []impl.World{twoWorld(), plannedWorld(), lostWorld()} {
		for epoch := 0; epoch <= 4; epoch++ {
			for _, off := range []int{-1, 0, 1, 2, 59, 60, 61} {
				if epoch < 1 || epoch > 2 || off < 1 || off > lastOff {
					checkLeaves(t, w, trimDeed(at(epoch, off)), wdRefused)
				} else {
					checkTurns(t, w, trimDeed(at(epoch, off)), func(w *impl.World) { w.Register.Trim = at(epoch, off) })
				}
			}
		}
		for _, place := range notPlaces() {
			checkLeaves(t, w, trimDeed(place), wdRefused)
		}
	}
	w := after(t, twoWorld(), trimDeed(at(1, 5)))
	checkTurns(t, w, trimDeed(at(1, 4)), func(*impl.World) {})
	checkTurns(t, w, trimDeed(at(1, 5)), func(*impl.World) {})
	checkTurns(t, w, trimDeed(at(2, 1)), func(w *impl.World) { w.Register.Trim = at(2, 1) })
	for _, place := range []int{at(1, 1), at(30, 60), 0, -1} {
		checkLeaves(t, emptyWorld(conf(1, 0)), trimDeed(place), wdRefused)
	}
}

// sureWorld has two words of the first epoch that are sure: the first lies on nodes 0 and 1, the second on 1 and 2.
func sureWorld() impl.World {
	return changedWorld(twoWorld(), func(w *impl.World) {
		a, b := impl.Entry{At: at(1, 1), Data: "a"}, impl.Entry{At: at(1, 2), Data: "b"}
		w.Stores[0], w.Stores[1], w.Stores[2] = storeWith(a), storeWith(a, b), storeWith(b)
		w.Writers[0] = writerWith(1, doneWord("a", 0, 1), doneWord("b", 1, 2))
		w.Sent[0].Sure, w.Sent[1].Sure = true, true
	})
}

// readTells is the reader that told e, and is there.
func readTells(reader int, epoch int, off int, e impl.Event) func(*impl.World) {
	return func(w *impl.World) { w.Readers[reader] = toldTo(w.Readers[reader], e, epoch, off) }
}

func TestReadDeedKnown(t *testing.T) {
	for reader := range 2 {
		w := checkTurns(t, sureWorld(), readDeed(reader, 3), readTells(reader, 1, 2, impl.Event{Kind: evData, At: at(1, 1), Data: "a"}))
		w = checkTurns(t, w, readDeed(reader, 255), readTells(reader, 1, 3, impl.Event{Kind: evData, At: at(1, 2), Data: "b"}))
		checkLeaves(t, w, readDeed(reader, 255), wdWait)
		w = checkTurns(t, after(t, w, trimDeed(at(1, 9))), readDeed(reader, 0), readTells(reader, 1, 10, impl.Event{Kind: evTrim, At: at(1, 9)}))
		w.Register.Eras[0].Closed, w.Register.Eras[0].Last = true, 2
		w = checkTurns(t, w, readDeed(reader, 0), readTells(reader, 2, 1, impl.Event{Kind: evEra, At: 2}))
		checkLeaves(t, w, readDeed(reader, 255), wdWait)
	}
}

func TestReadDeedReaders(t *testing.T) {
	for _, w := range []impl.World{sureWorld(), twoWorld(), emptyWorld(conf(1, 0))} {
		for _, reader := range append(wrongNumbers(), 2, 3, 4) {
			checkLeaves(t, w, readDeed(reader, 255), wdNone)
			checkLeaves(t, w, readDeed(reader, 0), wdNone)
			checkLeaves(t, w, readDeed(reader, -1), wdNone)
		}
	}
}

// Every mask: enough nodes of the epoch answer that are there. Others, lost ones, and what is no mask are nobody.
func TestReadDeedMasks(t *testing.T) {
	told := readTells(0, 1, 2, impl.Event{Kind: evData, At: at(1, 1), Data: "a"})
	gone := changedWorld(sureWorld(), func(w *impl.World) { w.Stores[0], w.Lost = impl.Store{}, []int{0} })
	for mask := -3; mask <= 300; mask++ {
		two := mask >= 0 && mask <= mostMask && len(nodesOf(mask&7)) >= 2
		if two {
			checkTurns(t, sureWorld(), readDeed(0, mask), told)
		} else {
			checkLeaves(t, sureWorld(), readDeed(0, mask), wdWait)
		}
		if two && mask&6 == 6 {
			checkTurns(t, gone, readDeed(0, mask), told)
		} else {
			checkLeaves(t, gone, readDeed(0, mask), wdWait)
		}
	}
	for _, mask := range wrongNumbers() {
		if mask < 0 || mask > mostMask {
			checkLeaves(t, sureWorld(), readDeed(0, mask), wdWait)
			// Where nobody need be asked, nobody is.
			after(t, after(t, sureWorld(), trimDeed(at(1, 1))), readDeed(0, mask))
		}
	}
}

// Nodes that were not of the epoch have something there, and are not heard; what is Late is not told; the better one is.
func TestReadDeedWhatIsHeard(t *testing.T) {
	w := changedWorld(sureWorld(), func(w *impl.World) { w.Stores[3] = storeWith(impl.Entry{At: at(1, 1), Wave: 9, Data: "other"}) })
	checkTurns(t, w, readDeed(0, 15), readTells(0, 1, 2, impl.Event{Kind: evData, At: at(1, 1), Data: "a"}))
	w = changedWorld(sureWorld(), func(w *impl.World) { w.Stores[2].Late = []impl.Entry{{At: at(1, 1), Wave: 9, Data: "late"}} })
	checkTurns(t, w, readDeed(0, 15), readTells(0, 1, 2, impl.Event{Kind: evData, At: at(1, 1), Data: "a"}))
	w = after(t, w, crashDeed(2, 1))
	checkTurns(t, w, readDeed(0, 15), readTells(0, 1, 2, impl.Event{Kind: evData, At: at(1, 1), Data: "late"}))
	checkTurns(t, w, readDeed(0, 3), readTells(0, 1, 2, impl.Event{Kind: evData, At: at(1, 1), Data: "a"}))
	w = changedWorld(sureWorld(), func(w *impl.World) { w.Stores[2].Kept[0] = impl.Entry{At: at(1, 1), Wave: 2, Hole: true} })
	checkTurns(t, w, readDeed(1, 7), readTells(1, 1, 2, impl.Event{Kind: evHole, At: at(1, 1)}))
	w = changedWorld(sureWorld(), func(w *impl.World) { w.Stores[0], w.Stores[1] = impl.Store{}, impl.Store{} })
	checkTurns(t, w, readDeed(1, 7), readTells(1, 1, 2, impl.Event{Kind: evLoss, At: at(1, 1)}))
}

// Each code of a reader is a wait; what is sure is told by the writer of that epoch, and by none that was dropped.
func TestReadDeedCodes(t *testing.T) {
	checkLeaves(t, sureWorld(), readDeed(0, 1), wdWait)
	checkLeaves(t, twoWorld(), readDeed(0, 255), wdWait)
	checkLeaves(t, emptyWorld(conf(1, 0)), readDeed(0, 255), wdWait)
	checkLeaves(t, after(t, sureWorld(), dropDeed(0)), readDeed(0, 255), wdWait)
	full := changedWorld(sureWorld(), func(w *impl.World) { w.Readers[1].Out = someEvents(mostOut) })
	checkLeaves(t, full, readDeed(1, 255), wdWait)
	checkLeaves(t, after(t, full, trimDeed(at(2, 60))), readDeed(1, 255), wdWait)
	full.Readers[1].Out = someEvents(mostOut - 1)
	after(t, full, readDeed(1, 255))
	for _, r := range someReaders() {
		for _, w := range []impl.World{sureWorld(), readyWorld(), fiveWorld(), mostWorld()} {
			w.Readers[1] = r
			checkDo(t, w, readDeed(1, 255))
			checkDo(t, w, readDeed(1, 7))
		}
	}
	// The second word is Done, and the first is not: it is not sure.
	w := changedWorld(sureWorld(), func(w *impl.World) { w.Writers[0].Words[0] = openWord("a", 0) })
	checkLeaves(t, w, readDeed(0, 255), wdWait)
}

func TestDropDeed(t *testing.T) {
	for _, w := range []impl.World{twoWorld(), sureWorld(), plannedWorld(), lostWorld()} {
		for _, writer := range append(wrongNumbers(), 2, 3, 4) {
			checkLeaves(t, w, dropDeed(writer), wdNone)
		}
		checkTurns(t, w, dropDeed(0), func(w *impl.World) { w.Writers = w.Writers[1:] })
		one := checkTurns(t, w, dropDeed(1), func(w *impl.World) { w.Writers = w.Writers[:1] })
		none := checkTurns(t, one, dropDeed(0), func(w *impl.World) { w.Writers = nil })
		checkLeaves(t, none, dropDeed(0), wdNone)
	}
	most := mostWorld()
	for writer := range mostWriters {
		checkTurns(t, most, dropDeed(writer), func(w *impl.World) { w.Writers = slices.Delete(w.Writers, writer, writer+1) })
	}
}

func TestPruneDeed(t *testing.T) {
	checkNodes(t, pruneDeed)
	for _, w := range []impl.World{twoWorld(), sureWorld(), plannedWorld(), fullWorld()} {
		for node := range 3 {
			checkLeaves(t, w, pruneDeed(node), wdRefused)
		}
	}
	w := after(t, sureWorld(), trimDeed(at(1, 1)))
	w.Stores[1].Late, w.Stores[1].Seal = []impl.Entry{{At: at(1, 1), Data: "a"}}, 4
	w = checkTurns(t, w, pruneDeed(1), func(w *impl.World) { w.Stores[1].Kept = []impl.Entry{{At: at(1, 2), Data: "b"}} })
	checkTurns(t, w, pruneDeed(1), func(*impl.World) {})
	checkTurns(t, w, pruneDeed(2), func(*impl.World) {})
	checkTurns(t, w, pruneDeed(3), func(*impl.World) {})
	w = checkTurns(t, w, pruneDeed(0), func(w *impl.World) { w.Stores[0] = impl.Store{} })
	checkTurns(t, after(t, w, trimDeed(at(2, 60))), pruneDeed(2), func(w *impl.World) { w.Stores[2].Kept = nil })
	full := changedWorld(fullWorld(), func(w *impl.World) { w.Register.Trim = at(2, 1) })
	checkTurns(t, full, pruneDeed(1), func(w *impl.World) { w.Stores[1].Kept = w.Stores[1].Kept[61:] })
	checkLeaves(t, full, pruneDeed(3), wdLost)
}

// drawnNode is mostly one that is there.
func drawnNode(drawn *rand.Rand, w impl.World) int {
	if drawn.Intn(40) == 0 {
		return []int{-1, len(w.Stores), 8, 1 << 40}[drawn.Intn(4)]
	}
	return drawn.Intn(len(w.Stores))
}

// drawnDeed is of any kind: its numbers are mostly such as are there.
func drawnDeed(drawn *rand.Rand, w impl.World) impl.Deed {
	node, writer, mask := drawnNode(drawn, w), drawn.Intn(len(w.Writers)+1)-drawn.Intn(30)/29, drawn.Intn(1<<len(w.Stores)+1)|drawn.Intn(1<<len(w.Stores))
	off := 1 + drawn.Intn(4) - drawn.Intn(20)/19
	weights := []int{1: 4, 2: 8, 3: 16, 4: 12, 5: 8, 6: 2, 7: 4, 8: 4, 9: 8, 10: 4, 11: 12, 12: 4, 13: 2, 14: 8, 15: 3, 16: 3}
	kind, rest := 1, drawn.Intn(102)
	for rest >= weights[kind] {
		rest -= weights[kind]
		kind++
	}
	return []impl.Deed{
		1: openDeed(mask), 2: addDeed(writer, strings.Repeat("z", drawn.Intn(4))+strconv.Itoa(drawn.Intn(1000))), 3: storeDeed(writer, off, node), 4: syncDeed(node), 5: crashDeed(node, drawn.Intn(1<<drawn.Intn(22))), 6: loseDeed(node), 7: fillDeed(node), 8: mendDeed(), 9: sealDeed(node),
		10: planDeed(), 11: fixDeed(off, node), 12: closeDeed(), 13: trimDeed(at(1+drawn.Intn(3), drawn.Intn(4))), 14: readDeed(drawn.Intn(9)/4, mask), 15: dropDeed(writer), 16: pruneDeed(node),
	}[kind]
}

// nextStep is one that brings on what is under way: the filling of a node, a mend, a word of a writer, a reader.
func nextStep(drawn *rand.Rand, w impl.World) impl.Deed {
	node := drawn.Intn(len(w.Stores))
	switch k := drawn.Intn(10); {
	case len(w.Lost) > 0 && k == 0:
		return fillDeed(w.Lost[0])
	case len(w.Mends) > 0 && k < 5:
		return mendStep(drawn, w, node)
	case k == 5:
		return readDeed(drawn.Intn(2), mostMask)
	case k == 6 && len(w.Register.Eras) > 1:
		return mendDeed()
	case len(w.Writers) == 0:
		return openDeed(1<<len(w.Stores) - 1)
	}
	writer := len(w.Writers) - 1
	words := w.Writers[writer].Words
	open := slices.IndexFunc(words, func(x impl.Word) bool { return !x.Done })
	switch {
	case open < 0:
		return addDeed(writer, "w"+strconv.Itoa(len(words)))
	case len(w.Stores[node].Late) > 0:
		return syncDeed(node)
	}
	return storeDeed(writer, open+1+drawn.Intn(len(words)-open), node)
}

func mendStep(drawn *rand.Rand, w impl.World, node int) impl.Deed {
	m := w.Mends[0]
	off := 1 + slices.IndexFunc(m.Wrote, func(nodes []int) bool { return !isHeld(w.Config, nodes) })
	switch {
	case !m.Planned && drawn.Intn(4) > 0:
		return sealDeed(node)
	case !m.Planned:
		return planDeed()
	case off == 0:
		return closeDeed()
	case len(w.Stores[node].Late) > 0:
		return syncDeed(node)
	}
	return fixDeed(off, node)
}

// checkDeedTurn is promise 13 of one deed, without a model.
func checkDeedTurn(t *testing.T, before impl.World, d impl.Deed, after impl.World, code int) {
	t.Helper()
	if !impl.WorldOk(after) || code < wdDone || code > wdWait || code == wdBad {
		t.Fatalf("%+v of %s: %d, %s", d, whole(before), code, whole(after))
	}
	if code != wdDone && !sameWorld(before, after) {
		t.Fatalf("%+v of %s: %d, and yet %s", d, whole(before), code, whole(after))
	}
	checkSentStays(t, before, d, after)
	if before.Torn && !after.Torn || after.Register.Trim < before.Register.Trim || len(after.Register.Eras) < len(before.Register.Eras) {
		t.Fatalf("%+v of %s took back something: %s", d, whole(before), whole(after))
	}
	for i, e := range before.Register.Eras {
		if got := after.Register.Eras[i]; !slices.Equal(got.Nodes, e.Nodes) || e.Closed && !sameEra(got, e) {
			t.Fatalf("%+v turned epoch %d: %v, %v", d, i+1, e, got)
		}
	}
	for i, r := range before.Readers {
		if got := after.Readers[i].Out; len(got) < len(r.Out) || !slices.Equal(got[:len(r.Out)], r.Out) || len(got) > len(r.Out) && (d.Kind != 14 || d.A != i) {
			t.Fatalf("%+v turned what reader %d told: %v, %v", d, i, r.Out, got)
		}
	}
}

// checkSentStays: what was sent is there with its Data, what is Sure is so; more comes by an add, and becomes Sure by a sync.
func checkSentStays(t *testing.T, before impl.World, d impl.Deed, after impl.World) {
	t.Helper()
	were := map[int]impl.Sent{}
	for _, s := range before.Sent {
		were[s.At] = s
	}
	found := 0
	for _, s := range after.Sent {
		was, ok := were[s.At]
		switch {
		case !ok && (d.Kind != 2 || s.Sure || s.Data != d.Text || len(after.Sent) != len(before.Sent)+1):
			t.Fatalf("%+v: %v came", d, s)
		case ok && (s.Data != was.Data || was.Sure && !s.Sure || !was.Sure && s.Sure && d.Kind != 4):
			t.Fatalf("%+v: %v became %v", d, was, s)
		case ok:
			found++
		}
	}
	if found != len(before.Sent) {
		t.Fatalf("%+v: of %v came %v", d, before.Sent, after.Sent)
	}
}

func deedConfigs() []impl.Config {
	return []impl.Config{conf(2, 0, 1, 2), conf(1, 0, 1), conf(2, 0, 0, 1, 2), conf(3, 0, 1, 2, 3, 3), conf(1, 4), conf(2, 0, 1, 2, 3, 4, 5, 6, 7)}
}

// Rows of deeds from new worlds on, against the model, and the promise at each.
func TestDoDrawnRows(t *testing.T) {
	t.Parallel()
	codes := map[[2]int]int{}
	sure, closed, told := 0, 0, 0
	for seed := range 60 {
		drawn := rand.New(rand.NewSource(int64(seed)))
		w, _ := impl.WorldNew(deedConfigs()[seed%6])
		for range 400 {
			d := nextStep(drawn, w)
			if drawn.Intn(4) == 0 {
				d = drawnDeed(drawn, w)
			}
			next, code := checkDo(t, w, d)
			checkDeedTurn(t, w, d, next, code)
			codes[[2]int{d.Kind, code}]++
			w = next
		}
		for _, s := range w.Sent {
			if s.Sure {
				sure++
			}
		}
		closed += closedOf(w.Register)
		told += len(w.Readers[0].Out) + len(w.Readers[1].Out)
	}
	if sure < 600 || closed < 40 || told < 600 {
		t.Errorf("%d are sure, %d closed, %d told", sure, closed, told)
	}
	// No drawn row fills a store.
	codes[[2]int{4, wdRefused}]++
	codes[[2]int{11, wdRefused}]++
	checkAllCodes(t, codes, 1)
}

// Deeds at worlds that no row may come to: what is right stays so.
func TestDoDrawnWorlds(t *testing.T) {
	drawn := rand.New(rand.NewSource(5))
	next := worldDrawer(drawn)
	done := 0
	for range 2500 {
		w := next()
		if !isWorld(w) {
			continue
		}
		for range 3 {
			d := drawnDeed(drawn, w)
			after, code := checkDo(t, w, d)
			checkDeedTurn(t, w, d, after, code)
			if code == wdDone {
				done++
			}
		}
	}
	if done < 500 {
		t.Errorf("only %d are done", done)
	}
}

// runIs is what WorldRun must answer: by WorldDo, one behind the other.
func runIs(w impl.World, list []impl.Deed) (impl.World, []int) {
	now := deepCopy(w)
	if len(list) > mostDeeds || !isWorld(w) {
		return now, nil
	}
	var codes []int
	for _, d := range list {
		next, code := impl.WorldDo(now, d)
		if code == wdDone {
			now = next
		}
		codes = append(codes, code)
	}
	return now, codes
}

func checkRun(t *testing.T, w impl.World, list []impl.Deed) (impl.World, []int) {
	t.Helper()
	got, codes := impl.WorldRun(w, list)
	want, wantCodes := runIs(w, list)
	if !sameWorld(got, want) || !slices.Equal(codes, wantCodes) {
		t.Fatalf("WorldRun of %s, %s: %s, %v; want %s, %v", shown(w), shown(list), whole(got), codes, whole(want), wantCodes)
	}
	return got, codes
}

// checkRunLeaves wants w as it was, and nothing.
func checkRunLeaves(t *testing.T, w impl.World, list []impl.Deed) {
	t.Helper()
	if got, codes := impl.WorldRun(w, list); !sameWorld(got, w) || len(codes) != 0 {
		t.Fatalf("WorldRun of %s, %d deeds: %s, %v", shown(w), len(list), shown(got), codes)
	}
	checkRun(t, w, list)
}

func TestRunKnown(t *testing.T) {
	w := emptyWorld(conf(2, 0, 1, 2))
	list := []impl.Deed{openDeed(7), addDeed(0, "x"), storeDeed(0, 1, 0), storeDeed(0, 1, 2), syncDeed(0), readDeed(0, 7), syncDeed(2), readDeed(0, 7), {}, syncDeed(9), loseDeed(1), syncDeed(1), openDeed(1), dropDeed(0)}
	got, codes := checkRun(t, w, list)
	if !slices.Equal(codes, []int{0, 0, 0, 0, 0, 5, 0, 0, 1, 2, 0, 3, 4, 0}) {
		t.Errorf("codes %v", codes)
	}
	want := emptyWorld(w.Config)
	e := impl.Entry{At: at(1, 1), Data: "x"}
	want.Stores[0], want.Stores[2] = storeWith(e), storeWith(e)
	want.Lost, want.Register.Eras = []int{1}, []impl.Era{openEra(0, 1, 2)}
	want.Sent = []impl.Sent{{At: at(1, 1), Data: "x", Sure: true}}
	want.Readers[0] = impl.Reader{Epoch: 1, Off: 2, Out: []impl.Event{{Kind: evData, At: at(1, 1), Data: "x"}}}
	if !sameWorld(got, want) {
		t.Errorf("%s, not %s", whole(got), whole(want))
	}
}

func TestRunCounts(t *testing.T) {
	for _, w := range []impl.World{fiveWorld(), twoWorld(), emptyWorld(conf(1, 0))} {
		checkRunLeaves(t, w, nil)
		checkRunLeaves(t, w, []impl.Deed{})
		for _, d := range []impl.Deed{openDeed(1), syncDeed(1), {}, mendDeed()} {
			got, codes := checkRun(t, w, []impl.Deed{d})
			one, code := doIs(w, d)
			if code == wdBad {
				one = w
			}
			if !sameWorld(got, one) || !slices.Equal(codes, []int{code}) {
				t.Errorf("%+v: %s, %v", d, whole(got), codes)
			}
		}
	}
	w := after(t, emptyWorld(conf(1, 0)), openDeed(1))
	for _, size := range []int{199, 200, 201, 202, 256, 400, 456, 70000} {
		list := make([]impl.Deed, size)
		for i := range list {
			list[i] = []impl.Deed{addDeed(0, strconv.Itoa(i)), storeDeed(0, 1+i/4, 0), syncDeed(0), readDeed(i%2, 1)}[i%4]
		}
		if size > mostDeeds {
			checkRunLeaves(t, w, list)
			checkRunLeaves(t, w, make([]impl.Deed, size))
			continue
		}
		got, codes := checkRun(t, w, list)
		if len(codes) != size || len(got.Sent) != 50 || !got.Sent[48].Sure || len(got.Readers[1].Out) != 49+(size-199) {
			t.Errorf("%d: %d codes, %s", size, len(codes), whole(got))
		}
	}
}

// A world that is not right comes back as it was, whatever is to be done to it.
func TestRunBadWorld(t *testing.T) {
	for _, w := range badWorlds() {
		checkRunLeaves(t, w, nil)
		checkRunLeaves(t, w, []impl.Deed{openDeed(7)})
		checkRunLeaves(t, w, append(badDeeds(), deedsOfAll()[:100]...))
		checkRunLeaves(t, w, make([]impl.Deed, mostDeeds+1))
	}
}

// A deed that is none leaves the world as it was, and those behind it are done.
func TestRunBadDeeds(t *testing.T) {
	for _, w := range []impl.World{twoWorld(), mendWorld(), fiveWorld()} {
		got, codes := checkRun(t, w, badDeeds())
		if !sameWorld(got, w) || !slices.Equal(codes, slices.Repeat([]int{wdBad}, len(badDeeds()))) {
			t.Errorf("%s, %v", whole(got), codes)
		}
		for _, bad := range badDeeds() {
			got, codes = checkRun(t, w, []impl.Deed{bad, loseDeed(1), bad, bad, loseDeed(1)})
			if !sameWorld(got, after(t, w, loseDeed(1))) || !slices.Equal(codes, []int{wdBad, wdDone, wdBad, wdBad, wdLost}) {
				t.Fatalf("%+v: %s, %v", bad, whole(got), codes)
			}
		}
	}
}

// Rows of deeds, of which some are refused: all at once they are what they are one behind the other.
func TestRunDrawn(t *testing.T) {
	refused := 0
	for seed := range 60 {
		drawn := rand.New(rand.NewSource(int64(seed)))
		w := emptyWorld(deedConfigs()[seed%6])
		guess := deepCopy(w)
		var list []impl.Deed
		for range drawn.Intn(mostDeeds + 1) {
			d := nextStep(drawn, guess)
			switch drawn.Intn(20) {
			case 0:
				d = badDeeds()[drawn.Intn(20)]
			case 1, 2, 3, 4, 5:
				d = drawnDeed(drawn, guess)
			}
			if next, code := impl.WorldDo(guess, d); code == wdDone {
				guess = next
			}
			list = append(list, d)
		}
		got, codes := checkRun(t, w, list)
		if !sameWorld(got, guess) || len(codes) != len(list) {
			t.Fatalf("%s, %s", whole(got), whole(guess))
		}
		for _, code := range codes {
			refused += min(code, 1)
		}
		half := len(list) / 2
		first, some := checkRun(t, w, list[:half])
		second, others := checkRun(t, first, list[half:])
		if !sameWorld(second, got) || !slices.Equal(slices.Concat(some, others), codes) {
			t.Fatalf("%d: in two halves it is another", seed)
		}
	}
	if refused < 500 {
		t.Errorf("only %d are refused", refused)
	}
}

// fewDeeds has for each kind some that are done in one of deedWorlds, and some that are not.
func fewDeeds() []impl.Deed {
	return []impl.Deed{
		openDeed(7), openDeed(0), addDeed(0, "x"), addDeed(9, "x"), storeDeed(0, 1, 1), storeDeed(0, 1, 3), storeDeed(0, 9, 1), syncDeed(0), syncDeed(1), syncDeed(2), crashDeed(1, 1), crashDeed(1, -1), crashDeed(2, 1), loseDeed(0), loseDeed(2), fillDeed(2), fillDeed(3), fillDeed(0),
		mendDeed(), sealDeed(0), sealDeed(1), sealDeed(3), planDeed(), fixDeed(1, 0), fixDeed(2, 1), fixDeed(9, 1), closeDeed(), trimDeed(at(1, 1)), trimDeed(0), readDeed(0, 255), readDeed(1, 1), readDeed(2, 1), dropDeed(0), dropDeed(1), dropDeed(9), pruneDeed(1), pruneDeed(2), {}, addDeed(0, strings.Repeat("x", mostData+1)), {Kind: 8, A: 1},
	}
}

func deedWorlds() []impl.World {
	late := changedWorld(plannedWorld(), func(w *impl.World) {
		w.Stores[0].Late = []impl.Entry{{At: at(1, 1), Wave: 2, Hole: true}, {At: at(1, 2), Wave: 2, Data: "b"}}
		w.Stores[1].Late = []impl.Entry{{At: at(1, 1), Data: "a"}, {At: at(2, 1), Data: "c"}}
		w.Register.Trim = at(1, 1)
	})
	return append([]impl.World{twoWorld(), mendWorld(), plannedWorld(), readyWorld(), lostWorld(), fullWorld(), sureWorld(), fiveWorld(), late, emptyWorld(conf(2, 0, 1, 2))}, badWorlds()[:9]...)
}

func TestDeedWritesNothing(t *testing.T) {
	for _, w := range deedWorlds() {
		laid := layDown(w)
		before := laid.look()
		all := memoryOf(laid.wholes...)
		look := func(name string, got impl.World, codes ...int) {
			t.Helper()
			if !laid.isStill(before) {
				t.Fatalf("%s wrote into what it was given: %s", name, whole(w))
			}
			if list := memoryOf(got, codes); shareMemory(list, all) || !areApart(list) {
				t.Fatalf("%s answers what it was given, or one thing twice: %s", name, whole(w))
			}
		}
		for _, d := range fewDeeds() {
			got, code := impl.WorldDo(laid.given, d)
			if want, wantCode := doIs(w, d); code != wantCode || !sameWorld(got, want) {
				t.Fatalf("%+v of %s: %d", d, whole(w), code)
			}
			look(fmt.Sprintf("%+v", d), got)
		}
		deeds := layDown(fewDeeds())
		deedsBefore := deeds.look()
		for _, list := range [][]impl.Deed{nil, deeds.given[:1], deeds.given, slices.Repeat(deeds.given, 6)} {
			got, codes := impl.WorldRun(laid.given, list)
			look("WorldRun", got, codes...)
			if !deeds.isStill(deedsBefore) || shareMemory(memoryOf(codes), memoryOf(deeds.wholes...)) {
				t.Fatal("WorldRun wrote into its deeds")
			}
		}
	}
}

// Two answers share nothing, and an answer stays as it was told, whatever is done to the arguments afterwards.
func TestDeedSharesNothing(t *testing.T) {
	for _, w := range deedWorlds() {
		for _, d := range fewDeeds() {
			laid := layDown(w)
			one, _ := impl.WorldDo(laid.given, d)
			two, code := impl.WorldDo(laid.given, d)
			if shareMemory(memoryOf(one), memoryOf(two)) {
				t.Fatalf("two answers of %+v share memory", d)
			}
			laid.spoil()
			spoilAll(one)
			if want, wantCode := doIs(w, d); code != wantCode || !sameWorld(two, want) {
				t.Fatalf("%+v of %s became %s", d, whole(w), whole(two))
			}
		}
		for _, list := range [][]impl.Deed{nil, fewDeeds(), slices.Repeat(fewDeeds(), 6)} {
			laid := layDown(w)
			one, oneCodes := impl.WorldRun(laid.given, list)
			two, codes := impl.WorldRun(laid.given, list)
			if shareMemory(memoryOf(one, oneCodes), memoryOf(two, codes)) {
				t.Fatal("two answers of WorldRun share memory")
			}
			laid.spoil()
			spoilAll(one)
			spoilNumbers(oneCodes)
			if want, wantCodes := runIs(w, list); !sameWorld(two, want) || !slices.Equal(codes, wantCodes) {
				t.Fatalf("WorldRun of %s became %s", whole(w), whole(two))
			}
		}
	}
}

// spoilAll writes over all lists of a world, those inside of others first.
func spoilAll(w impl.World) {
	for _, s := range w.Stores {
		spoilStore(s)
	}
	for _, x := range w.Writers {
		spoilWriter(x)
	}
	for _, m := range w.Mends {
		spoilMend(m)
	}
	for _, r := range w.Readers {
		spoilReader(r)
	}
	spoilRegister(w.Register)
	spoilNumbers(w.Config.Domains)
	spoilNumbers(w.Lost)
	clear(w.Stores)
	clear(w.Writers)
	clear(w.Mends)
	clear(w.Readers)
	clear(w.Sent)
}

// One memory may be all lists of numbers, the entries of every store, and the words of two writers.
func TestDeedOneMemory(t *testing.T) {
	numbers := []int{0, 1, 2, 3}
	entries := []impl.Entry{{At: at(1, 1), Data: "a"}, {At: at(1, 2), Data: "b"}, {At: at(2, 1), Data: "c"}}
	words := []impl.Word{openWord("a", numbers[:1]...), openWord("b", numbers[:1]...), doneWord("c", numbers...)}
	s := impl.Store{Kept: entries[:2], Late: entries}
	w := impl.World{
		Config: impl.Config{Domains: numbers, Copies: 2}, Stores: []impl.Store{s, s, s, {}}, Lost: numbers[3:],
		Register: impl.Register{Eras: []impl.Era{openEra(numbers...), openEra(numbers[1:]...), openEra(numbers...)}, Trim: at(1, 1)},
		Writers:  []impl.Writer{{Epoch: 1, Words: words}, {Epoch: 2, Words: words}}, Mends: []impl.Mend{{By: 3, Epoch: 1, Sealed: numbers, Seen: entries[:2], Planned: true, Wrote: [][]int{numbers, numbers[:1]}}},
		Readers: []impl.Reader{impl.ReaderNew(), impl.ReaderNew()}, Sent: []impl.Sent{{At: at(1, 1), Data: "a"}, {At: at(2, 1), Data: "a"}},
	}
	checkWorldOk(t, w, true)
	before := deepCopy(w)
	for _, d := range append(fewDeeds(), fillDeed(3), dropDeed(1)) {
		got, code := impl.WorldDo(w, d)
		if want, wantCode := doIs(before, d); code != wantCode || !sameWorld(got, want) || !areApart(memoryOf(got)) {
			t.Fatalf("%+v: %d, %s; want %d, %s", d, code, whole(got), wantCode, whole(want))
		}
		if !sameWorld(w, before) {
			t.Fatalf("%+v wrote into what it was given", d)
		}
	}
	got, _ := impl.WorldRun(w, fewDeeds())
	if want, _ := runIs(before, fewDeeds()); !sameWorld(got, want) || !sameWorld(w, before) {
		t.Errorf("%s, not %s", whole(got), whole(want))
	}
}

// From one world several may go on: none sees what is done to another.
func TestDeedForked(t *testing.T) {
	for _, w := range deedWorlds()[:10] {
		before := deepCopy(w)
		var got, want []impl.World
		for _, d := range fewDeeds() {
			next, _ := impl.WorldDo(w, d)
			got, want = append(got, next), append(want, deepCopy(next))
			for _, d := range fewDeeds()[:20] {
				impl.WorldDo(next, d)
			}
		}
		if !slices.EqualFunc(got, want, sameWorld) || !sameWorld(w, before) {
			t.Fatalf("a world was turned: %s", whole(before))
		}
	}
}

// Nothing is kept from call to call: an answer is the same whatever was asked ahead of it.
func TestDeedAgain(t *testing.T) {
	worlds, deeds := deedWorlds(), fewDeeds()
	for seed := range 3 {
		drawn := rand.New(rand.NewSource(int64(seed)))
		for _, i := range drawn.Perm(len(worlds) * len(deeds)) {
			w, d := worlds[i%len(worlds)], deeds[i/len(worlds)]
			checkDo(t, w, d)
			checkDeedOk(t, d, isDeed(d))
			if drawn.Intn(20) == 0 {
				checkRun(t, w, deeds[:drawn.Intn(len(deeds))])
			}
		}
	}
}
