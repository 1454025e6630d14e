package tests

import (
	"math"
	"math/rand"
	"slices"
	"strings"
	"testing"

	"loop.example/g00178/impl"
)

// allSo is what is said of a world where all is well: by the first letters of the judges' names; JudgeAll is a.
const allSo = "otkwsa"

func judges() []func(impl.World) bool {
	return []func(impl.World) bool{impl.JudgeOrder, impl.JudgeTrue, impl.JudgeKept, impl.JudgeWhole, impl.JudgeSame, impl.JudgeAll}
}

// verdicts is what the six judges say.
func verdicts(w impl.World) string {
	said := ""
	for i, isSo := range judges() {
		if isSo(w) {
			said += allSo[i : i+1]
		}
	}
	return said
}

// verdictsAre is what they must say, by a model of the tests' own.
func verdictsAre(w impl.World) string {
	if !isWorld(w) {
		return ""
	}
	a, b := w.Readers[0], w.Readers[1]
	said := ""
	for i, isSo := range []bool{
		areAscending(a) && areAscending(b),
		wereSent(w, a) && wereSent(w, b),
		w.Torn || toldAllSure(w, a) && toldAllSure(w, b),
		w.Torn || countKind(a, evLoss)+countKind(b, evLoss) == 0,
		w.Torn || tellTheSame(w, a, b),
	} {
		if isSo {
			said += allSo[i : i+1]
		}
	}
	if said == allSo[:5] {
		return allSo
	}
	return said
}

// areAscending holds each of these events against all that come behind it.
func areAscending(r impl.Reader) bool {
	isOfPlace := func(e impl.Event) bool { return e.Kind == evData || e.Kind == evHole || e.Kind == evLoss }
	for i, e := range r.Out {
		for _, later := range r.Out[i+1:] {
			if isOfPlace(e) && isOfPlace(later) && later.At <= e.At {
				return false
			}
		}
	}
	return true
}

func wereSent(w impl.World, r impl.Reader) bool {
	was := map[impl.Sent]bool{}
	for _, s := range w.Sent {
		was[impl.Sent{At: s.At, Data: s.Data}] = true
	}
	for _, e := range r.Out {
		if e.Kind == evData && !was[impl.Sent{At: e.At, Data: e.Data}] {
			return false
		}
	}
	return true
}

// toldOf goes from the last event to the first, so that the first of a place stays.
func toldOf(r impl.Reader) map[int]string {
	told := map[int]string{}
	for _, e := range slices.Backward(r.Out) {
		if e.Kind == evData {
			told[e.At] = e.Data
		}
	}
	return told
}

func isBehind(r impl.Reader, place int) bool {
	epoch, off := place/epochStep, place%epochStep
	return r.Epoch > epoch || r.Epoch == epoch && r.Off > off
}

func toldAllSure(w impl.World, r impl.Reader) bool {
	told := toldOf(r)
	for _, s := range w.Sent {
		if _, ok := told[s.At]; s.Sure && s.At > w.Register.Trim && isBehind(r, s.At) && !ok {
			return false
		}
	}
	return true
}

// tellTheSame goes through all places that there are.
func tellTheSame(w impl.World, a impl.Reader, b impl.Reader) bool {
	one, two := toldOf(a), toldOf(b)
	for epoch := 1; epoch <= lastEpoch && epoch <= min(a.Epoch, b.Epoch); epoch++ {
		for off := 1; off <= lastOff; off++ {
			place := at(epoch, off)
			if place <= w.Register.Trim || !isBehind(a, place) || !isBehind(b, place) {
				continue
			}
			x, byOne := one[place]
			y, byTwo := two[place]
			if byOne != byTwo || x != y {
				return false
			}
		}
	}
	return true
}

func countKind(r impl.Reader, kind int) int {
	count := 0
	for _, e := range r.Out {
		if e.Kind == kind {
			count++
		}
	}
	return count
}

func checkVerdicts(t *testing.T, w impl.World, want string) {
	t.Helper()
	got, model := verdicts(w), verdictsAre(w)
	if got != want || model != want {
		t.Fatalf("of %s: %q, not %q; the model says %q", whole(w), got, want, model)
	}
}

// checkJudge asks one of the judges, by its letter, and holds the others against the model.
func checkJudge(t *testing.T, letter string, w impl.World, want bool) {
	t.Helper()
	said := verdictsAre(w)
	checkVerdicts(t, w, said)
	if strings.Contains(said, letter) != want {
		t.Fatalf("of %s: %q; %s is not %v", whole(w), said, letter, want)
	}
}

// judgedWorld was read by both readers up to e1.3, and has a third entry that is not sure; what was told is given.
func judgedWorld(first []impl.Event, second []impl.Event) impl.World {
	return changedWorld(twoWorld(), func(w *impl.World) {
		w.Sent = []impl.Sent{{At: at(1, 1), Data: "a", Sure: true}, {At: at(1, 2), Data: "b", Sure: true}, {At: at(1, 3), Data: "c"}}
		w.Readers = []impl.Reader{{Epoch: 1, Off: 3, Out: first}, {Epoch: 1, Off: 3, Out: second}}
	})
}

func toldData(off int, data string) impl.Event {
	return impl.Event{Kind: evData, At: at(1, off), Data: data}
}

// bothWays has the one reader's tale told by the other one, too.
func bothWays(w impl.World) []impl.World {
	return []impl.World{w, changedWorld(w, func(w *impl.World) { slices.Reverse(w.Readers) })}
}

func TestJudgeKnown(t *testing.T) {
	a, b, c := toldData(1, "a"), toldData(2, "b"), toldData(3, "c")
	hole, loss := impl.Event{Kind: evHole, At: at(1, 2)}, impl.Event{Kind: evLoss, At: at(1, 2)}
	right := []impl.Event{a, b}
	era, trim := impl.Event{Kind: evEra, At: 2}, impl.Event{Kind: evTrim, At: at(1, 1)}
	checkVerdicts(t, emptyWorld(conf(1, 0)), allSo)
	for _, one := range []struct {
		told []impl.Event
		want string
	}{
		{right, allSo}, {[]impl.Event{era, a, trim, era, b, trim}, allSo},
		{[]impl.Event{b, a}, "tkws"}, {[]impl.Event{a, a, b}, "tkws"}, {[]impl.Event{a, b, hole}, "tkws"}, {[]impl.Event{a, b, loss}, "tks"},
		{[]impl.Event{a, toldData(2, "x")}, "okw"}, {[]impl.Event{a, b, toldData(4, "x")}, "okws"},
		{[]impl.Event{a}, "otw"}, {[]impl.Event{b}, "otw"}, {nil, "otw"}, {[]impl.Event{a, hole}, "otw"}, {[]impl.Event{a, loss}, "ot"},
		{[]impl.Event{a, b, c}, allSo}, {[]impl.Event{a, b, {Kind: evHole, At: at(1, 3)}}, allSo}, {[]impl.Event{a, b, {Kind: evLoss, At: at(1, 3)}}, "otks"},
	} {
		for _, w := range bothWays(judgedWorld(one.told, right)) {
			checkVerdicts(t, w, one.want)
		}
	}
}

// rightFive is fiveWorld, with readers that told nothing yet: all is well there.
func rightFive() impl.World {
	return changedWorld(fiveWorld(), func(w *impl.World) { w.Readers = []impl.Reader{impl.ReaderNew(), impl.ReaderNew()} })
}

// A world that is not right is judged by none, torn or not, also where all would be well.
func TestJudgeNotWorld(t *testing.T) {
	checkVerdicts(t, rightFive(), allSo)
	for _, wrong := range worldBreaks() {
		for _, torn := range []bool{false, true} {
			w := rightFive()
			wrong.change(&w)
			w.Torn = torn
			if wrong.name != "not torn" || !torn {
				checkVerdicts(t, w, "")
			}
		}
	}
	for _, w := range badWorlds() {
		checkVerdicts(t, w, "")
	}
	for _, w := range []impl.World{{}, {Torn: true}, {Readers: make([]impl.Reader, 2)}, {Torn: true, Readers: []impl.Reader{impl.ReaderNew(), impl.ReaderNew()}}} {
		checkVerdicts(t, w, "")
	}
}

// What a reader told is asked of two readers who are right.
func TestJudgeNotReaders(t *testing.T) {
	right := []impl.Event{toldData(1, "a"), toldData(2, "b")}
	for _, at := range [][2]int{{0, 3}, {32, 1}, {1, 0}, {1, 62}, {-1, 1}, {math.MaxInt, 1}, {1, math.MinInt}} {
		for _, torn := range []bool{false, true} {
			w := judgedWorld(right, right)
			w.Torn, w.Readers[0].Epoch, w.Readers[0].Off = torn, at[0], at[1]
			for _, x := range bothWays(w) {
				checkVerdicts(t, x, "")
			}
		}
	}
	for _, count := range []int{0, 1, 3, 4} {
		w := judgedWorld(right, right)
		w.Readers = slices.Repeat(w.Readers, 2)[:count]
		checkVerdicts(t, w, "")
	}
	era := impl.Event{Kind: evEra, At: 2}
	for _, size := range []int{119, 120, 121, 240} {
		w := judgedWorld(append(slices.Repeat([]impl.Event{era}, size-2), right...), right)
		checkVerdicts(t, w, map[bool]string{true: allSo}[size <= mostOut])
	}
}

// someKinds are those that there are, and others.
func someKinds() []int {
	return []int{math.MinInt, -1, 0, evData, evHole, evLoss, evEra, evTrim, 6, 256 + evData, 1<<32 + evHole, math.MaxInt}
}

// orderWorld is torn, so that none but order and truth is asked; what the one reader told is given.
func orderWorld(told ...impl.Event) impl.World {
	return changedWorld(judgedWorld(told, nil), func(w *impl.World) { w.Torn = true })
}

// Any two kinds, with Ats that ascend, are alike, and descend: only what is told of a place must ascend, and that alone.
func TestJudgeOrderKinds(t *testing.T) {
	t.Parallel()
	ats := []int{math.MinInt, -1, 0, 1, 2, at(1, 1), at(1, 2), at(1, 60), at(1, 61), at(2, 1), at(31, 1), math.MaxInt}
	isOfPlace := func(kind int) bool { return kind == 1 || kind == 2 || kind == 3 }
	for _, first := range someKinds() {
		for _, second := range someKinds() {
			for i, x := range ats {
				for j, y := range ats {
					if i-j > 2 || j-i > 2 {
						continue
					}
					w := orderWorld(impl.Event{Kind: first, At: x}, impl.Event{Kind: second, At: y})
					for _, x := range bothWays(w) {
						checkJudge(t, "o", x, i < j || !isOfPlace(first) || !isOfPlace(second))
					}
				}
			}
		}
	}
}

// What stands between two events of places, once or often, and whatever its At is, does not count.
func TestJudgeOrderBetween(t *testing.T) {
	for _, kind := range []int{evEra, evTrim, 0, -1, 6} {
		for _, between := range []int{math.MinInt, 0, 2, 31, at(1, 1), at(1, 2), at(1, 3), at(2, 9), math.MaxInt} {
			other := impl.Event{Kind: kind, At: between}
			for _, ofPlace := range []int{evData, evHole, evLoss} {
				for second := 1; second <= 3; second++ {
					one, two := impl.Event{Kind: ofPlace, At: at(1, 2)}, impl.Event{Kind: 1 + (ofPlace+second)%3, At: at(1, second)}
					for _, told := range [][]impl.Event{{one, other, two}, {other, one, other, other, two, other}, {one, other, other, other, two}, {other, other, one, two}} {
						for _, w := range bothWays(orderWorld(told...)) {
							checkJudge(t, "o", w, second == 3)
						}
					}
				}
			}
		}
	}
}

// Each reader is asked alone: what the one told need not stand behind what the other one did.
func TestJudgeOrderReaders(t *testing.T) {
	a, b, c := toldData(1, "a"), toldData(2, "b"), toldData(3, "c")
	for _, one := range []struct {
		first  []impl.Event
		second []impl.Event
		want   bool
	}{
		{nil, nil, true}, {[]impl.Event{a}, nil, true}, {[]impl.Event{c}, []impl.Event{a}, true}, {[]impl.Event{b}, []impl.Event{b}, true}, {[]impl.Event{a, b, c}, []impl.Event{a, b, c}, true}, {[]impl.Event{a, c}, []impl.Event{b, c}, true},
		{[]impl.Event{b, a}, nil, false}, {[]impl.Event{a, b, c}, []impl.Event{a, c, b}, false}, {[]impl.Event{b, a}, []impl.Event{c, a}, false}, {[]impl.Event{a, b}, []impl.Event{a, b, b}, false}, {[]impl.Event{a, c, b}, []impl.Event{a}, false}, {[]impl.Event{b, c, a}, []impl.Event{a, b, c}, false},
	} {
		for _, torn := range []bool{false, true} {
			w := judgedWorld(one.first, one.second)
			w.Torn = torn
			for _, x := range bothWays(w) {
				checkJudge(t, "o", x, one.want)
			}
		}
	}
}

// As many events as there can be, with one pair that does not ascend, anywhere.
func TestJudgeOrderLong(t *testing.T) {
	var told []impl.Event
	for i := range mostOut {
		told = append(told, impl.Event{Kind: 1 + i%3, At: at(1+i/50, 1+i%50), Data: "x"})
	}
	checkJudge(t, "o", orderWorld(told...), true)
	for i := range mostOut - 1 {
		for _, w := range bothWays(orderWorld(slices.Concat(told[:i], []impl.Event{told[i+1], told[i]}, told[i+2:])...)) {
			checkJudge(t, "o", w, false)
		}
		alike := slices.Clone(told)
		alike[i+1].At = alike[i].At
		checkJudge(t, "o", orderWorld(alike...), false)
	}
	for _, i := range []int{1, 60, mostOut - 1} {
		early := slices.Clone(told)
		early[i].At = early[0].At
		checkJudge(t, "o", orderWorld(early...), false)
	}
}

// Where it is, what was sent, and what is given up do not count.
func TestJudgeOrderAlone(t *testing.T) {
	for _, told := range [][]impl.Event{{toldData(1, "a"), toldData(2, "b")}, {toldData(2, "b"), toldData(1, "a")}} {
		for _, where := range [][2]int{{1, 1}, {1, 2}, {1, 61}, {2, 1}, {31, 61}} {
			for _, trim := range []int{0, at(1, 1), at(1, 2), at(2, 60)} {
				w := orderWorld(told...)
				w.Readers[0].Epoch, w.Readers[0].Off, w.Register.Trim = where[0], where[1], trim
				checkJudge(t, "o", w, told[0].At < told[1].At)
				w.Sent = nil
				checkJudge(t, "o", w, told[0].At < told[1].At)
			}
		}
	}
}

// trueWorld told one event more; it is not sure of anything, and its readers passed nothing.
func trueWorld(e impl.Event) impl.World {
	return changedWorld(judgedWorld([]impl.Event{e}, nil), func(w *impl.World) {
		w.Sent = []impl.Sent{{At: at(1, 1), Data: "a", Sure: true}, {At: at(1, 2)}, {At: at(1, 60), Data: "c"}, {At: at(2, 1), Data: "a"}}
		w.Readers[0].Off, w.Readers[1].Off = 1, 1
	})
}

// Only what has the Data of just its place was sent, sure or not.
func TestJudgeTrueSent(t *testing.T) {
	sent := trueWorld(impl.Event{}).Sent
	places := slices.Concat(notPlaces(), []int{at(1, 1), at(1, 2), at(1, 3), at(1, 59), at(1, 60), at(2, 1), at(2, 2), at(3, 1), at(30, 60)})
	for _, place := range places {
		for _, data := range []string{"", "a", "c", "A", "a ", "aa", "\x00", "b", strings.Repeat("a", mostData), strings.Repeat("a", mostData+1)} {
			was := slices.ContainsFunc(sent, func(s impl.Sent) bool { return s.At == place && s.Data == data })
			for _, kind := range someKinds() {
				for _, w := range bothWays(trueWorld(impl.Event{Kind: kind, At: place, Data: data})) {
					checkJudge(t, "t", w, kind != evData || was)
				}
			}
		}
	}
}

// Each event is asked, not only the first of a place, and the first and the last of many.
func TestJudgeTrueEach(t *testing.T) {
	a, b, wrong := toldData(1, "a"), toldData(2, "b"), toldData(1, "z")
	for _, told := range [][]impl.Event{{wrong}, {a, wrong}, {wrong, a}, {a, b, wrong}, {a, wrong, b}, {wrong, a, b}, {a, a, wrong, a}} {
		for _, torn := range []bool{false, true} {
			w := judgedWorld(told, []impl.Event{a, b})
			w.Torn = torn
			for _, x := range bothWays(w) {
				checkJudge(t, "t", x, false)
				x.Sent[0].Data = "z"
				checkJudge(t, "t", x, false)
			}
		}
	}
	for _, told := range [][]impl.Event{nil, {a}, {b}, {a, a}, {b, a, b}} {
		for _, w := range bothWays(judgedWorld(told, []impl.Event{a, b})) {
			checkJudge(t, "t", w, true)
		}
	}
	long := slices.Repeat([]impl.Event{a}, mostOut)
	checkJudge(t, "t", judgedWorld(long, long), true)
	for _, i := range []int{0, 1, 59, mostOut - 1} {
		other := slices.Clone(long)
		other[i] = wrong
		for _, w := range bothWays(judgedWorld(long, other)) {
			checkJudge(t, "t", w, false)
		}
	}
}

// As much as can be sent: the first, one in the midst and the last are found.
func TestJudgeTrueMostSent(t *testing.T) {
	w := worldOfSent(3, sentUpTo(3, mostSent)...)
	for i, s := range w.Sent {
		e := impl.Event{Kind: evData, At: s.At, Data: s.Data}
		w.Readers[i%2].Out = []impl.Event{e}
		checkJudge(t, "t", w, true)
		w.Readers[i%2].Out[0].Data += "x"
		checkJudge(t, "t", w, false)
		w.Readers[i%2].Out = nil
		checkJudge(t, "t", changedWorld(w, func(w *impl.World) {
			w.Sent = slices.Delete(w.Sent, i, i+1)
			w.Readers[0].Out = []impl.Event{e}
		}), false)
	}
}

// What is given up, where a reader is, and a torn world do not count: what is told was sent.
func TestJudgeTrueAlone(t *testing.T) {
	for _, data := range []string{"a", "z"} {
		for _, where := range [][2]int{{1, 1}, {1, 2}, {1, 61}, {2, 1}, {31, 61}} {
			for _, trim := range []int{0, at(1, 1), at(1, 2), at(2, 60)} {
				for _, torn := range []bool{false, true} {
					w := judgedWorld([]impl.Event{toldData(1, data)}, nil)
					w.Readers[0].Epoch, w.Readers[0].Off, w.Register.Trim, w.Torn = where[0], where[1], trim, torn
					checkJudge(t, "t", w, data == "a")
				}
			}
		}
	}
}

// somewhere is where a reader may be: at the ends of an epoch and one beyond, and later than all.
func somewhere() [][2]int {
	return [][2]int{{1, 1}, {1, 2}, {1, 3}, {1, 59}, {1, 60}, {1, 61}, {2, 1}, {2, 2}, {2, 60}, {2, 61}, {3, 1}, {30, 60}, {31, 1}, {31, 61}}
}

// oneSent has one thing that was sent, or none, and readers at these places.
func oneSent(s impl.Sent, trim int, first [2]int, second [2]int) impl.World {
	w := twoWorld()
	w.Sent = []impl.Sent{s}
	w.Register.Trim = trim
	w.Readers = []impl.Reader{{Epoch: first[0], Off: first[1]}, {Epoch: second[0], Off: second[1]}}
	return w
}

// passes is whether who is there is behind that place.
func passes(where [2]int, epoch int, off int) bool {
	return where[0] > epoch || where[0] == epoch && where[1] > off
}

// Of one thing that was sent: sure or not, at, above and below what is given up, told or not by each of two readers, who are ahead of it, at it, or behind it.
func TestJudgeKeptGrid(t *testing.T) {
	t.Parallel()
	for _, place := range [][2]int{{1, 1}, {1, 2}, {1, 59}, {1, 60}, {2, 1}, {2, 60}} {
		x := at(place[0], place[1])
		for _, trim := range []int{0, at(1, 1), x - 1, x, x + 1, at(1, 60), at(2, 1), at(2, 60)} {
			if trim != 0 && (trim%epochStep < 1 || trim%epochStep > lastOff) {
				continue
			}
			for _, first := range somewhere() {
				for _, second := range [][2]int{{1, 1}, {1, 60}, {2, 1}, {31, 61}} {
					for told := range 4 {
						w := oneSent(impl.Sent{At: x, Data: "a", Sure: true}, trim, first, second)
						for i := range 2 {
							if told>>i&1 == 1 {
								w.Readers[i].Out = []impl.Event{{Kind: evData, At: x, Data: "a"}}
							}
						}
						lacks := told&1 == 0 && passes(first, place[0], place[1]) || told&2 == 0 && passes(second, place[0], place[1])
						checkJudge(t, "k", w, trim >= x || !lacks)
						w.Sent[0].Sure = false
						checkJudge(t, "k", w, true)
						w.Sent[0].Sure, w.Torn = true, true
						checkJudge(t, "k", w, true)
					}
				}
			}
		}
	}
}

// A place is told by an EvData of it, whatever its Data is, and by nothing else: whether that was sent is not asked here.
func TestJudgeKeptTold(t *testing.T) {
	right := []impl.Event{toldData(1, "a"), toldData(2, "b")}
	for _, kind := range someKinds() {
		for _, data := range []string{"a", "", "z", "b"} {
			e := impl.Event{Kind: kind, At: at(1, 1), Data: data}
			for _, told := range [][]impl.Event{{e, right[1]}, {right[1], e}, {e, e, right[1]}, {{Kind: evEra, At: 1}, e, right[1]}} {
				for _, w := range bothWays(judgedWorld(told, right)) {
					checkJudge(t, "k", w, kind == evData)
				}
			}
		}
	}
	for _, place := range slices.Concat(notPlaces(), []int{at(1, 3), at(1, 60), at(2, 1), at(30, 60)}) {
		for _, w := range bothWays(judgedWorld([]impl.Event{{Kind: evData, At: place, Data: "a"}, right[1]}, right)) {
			checkJudge(t, "k", w, false)
		}
	}
}

// A reader told of the place, with Data that was not sent: it is kept, and yet not true.
func TestJudgeKeptOtherData(t *testing.T) {
	w := after(t, emptyWorld(conf(2, 0, 1, 2)), openDeed(7), addDeed(0, "a"), storeDeed(0, 1, 0), syncDeed(0), storeDeed(0, 1, 1), syncDeed(1), readDeed(0, 7))
	checkVerdicts(t, w, allSo)
	w.Readers[0].Out[0].Data = "z"
	checkVerdicts(t, w, "okws")
	w.Readers[0].Out[0].Data = ""
	checkVerdicts(t, w, "okws")
	w.Readers[0].Out = nil
	checkVerdicts(t, w, "otws")
}

// Each of what was sent is asked: the first, one in the midst and the last of as much as there can be.
func TestJudgeKeptEach(t *testing.T) {
	w := worldOfSent(2, sentUpTo(2, mostSent)...)
	for i := range w.Sent {
		w.Sent[i].Sure = true
		w.Readers[0].Out = append(w.Readers[0].Out, impl.Event{Kind: evData, At: w.Sent[i].At, Data: w.Sent[i].Data})
	}
	w.Readers[0].Epoch, w.Readers[0].Off = 3, 1
	w.Readers[1] = impl.Reader{Epoch: 31, Off: 61, Out: w.Readers[0].Out}
	checkVerdicts(t, w, allSo)
	for i := range w.Sent {
		one := changedWorld(w, func(w *impl.World) { w.Readers[i%2].Out[i].Kind = evHole })
		checkVerdicts(t, one, "otw")
		one.Sent[i].Sure = false
		checkVerdicts(t, one, "otkw")
		one.Sent[i].Sure, one.Register.Trim = true, one.Sent[i].At
		checkVerdicts(t, one, allSo)
		if i > 0 {
			one.Register.Trim = one.Sent[i-1].At
			checkVerdicts(t, one, "otw")
		}
	}
}

// A loss of either reader, wherever it stands, and whatever its place is.
func TestJudgeWhole(t *testing.T) {
	t.Parallel()
	right := []impl.Event{toldData(1, "a"), toldData(2, "b")}
	for _, kind := range someKinds() {
		for _, place := range slices.Concat(notPlaces(), somePlaces()) {
			e := impl.Event{Kind: kind, At: place}
			for _, told := range [][]impl.Event{{e}, {e, right[0], right[1]}, {right[0], e, right[1]}, {right[0], right[1], e}, {e, e}} {
				w := judgedWorld(told, right)
				checkJudge(t, "w", w, kind != evLoss)
				w.Register.Trim = at(2, 60)
				checkJudge(t, "w", w, kind != evLoss)
				w.Readers[0].Epoch, w.Readers[0].Off = 1, 1
				slices.Reverse(w.Readers)
				checkJudge(t, "w", w, kind != evLoss)
				w.Torn = true
				checkJudge(t, "w", w, true)
			}
		}
	}
	for i := range mostOut {
		long := slices.Repeat([]impl.Event{{Kind: evHole, At: at(1, 9)}}, mostOut)
		checkJudge(t, "w", judgedWorld(long, long), true)
		other := slices.Clone(long)
		other[i].Kind = evLoss
		for _, w := range bothWays(judgedWorld(long, other)) {
			checkJudge(t, "w", w, false)
		}
	}
	both := []impl.Event{{Kind: evLoss, At: at(1, 9)}}
	checkJudge(t, "w", judgedWorld(both, both), false)
}

// tales are what may be told of a place; data is what the first EvData has, and - where there is none.
func tales(place int) []struct {
	told []impl.Event
	data string
} {
	e := func(kind int, data string) impl.Event { return impl.Event{Kind: kind, At: place, Data: data} }
	return []struct {
		told []impl.Event
		data string
	}{
		{nil, "-"}, {[]impl.Event{e(evHole, "")}, "-"}, {[]impl.Event{e(evTrim, "a"), e(evEra, "a"), e(0, "a")}, "-"}, {[]impl.Event{e(evHole, ""), e(evData, "a")}, "a"},
		{[]impl.Event{e(evData, "a")}, "a"}, {[]impl.Event{e(evData, "b")}, "b"}, {[]impl.Event{e(evData, "")}, ""},
		{[]impl.Event{e(evData, "a"), e(evData, "b")}, "a"}, {[]impl.Event{e(evData, "b"), e(evData, "a")}, "b"}, {[]impl.Event{e(evData, "a"), e(evData, "a")}, "a"}, {[]impl.Event{e(evData, ""), e(evEra, "b"), e(evData, "a")}, ""},
	}
}

// Of one place: what each of two readers told of it, who are ahead of it, at it, or behind it; at, above and below what is given up.
func TestJudgeSameGrid(t *testing.T) {
	t.Parallel()
	for _, place := range [][2]int{{1, 1}, {1, 59}, {2, 1}, {2, 59}} {
		x := at(place[0], place[1])
		for _, trim := range []int{0, at(1, 1), at(1, 59), at(1, 60), at(2, 1), at(2, 58), at(2, 59), at(2, 60)} {
			for _, first := range somewhere() {
				for _, second := range [][2]int{{1, 1}, {1, 2}, {1, 60}, {2, 1}, {2, 2}, {31, 61}} {
					for i, one := range tales(x) {
						two := tales(x)[(i*3+first[1]+second[1]+trim)%len(tales(x))]
						w := oneSent(impl.Sent{At: x, Data: "a"}, trim, first, second)
						w.Readers[0].Out, w.Readers[1].Out = one.told, two.told
						areAsked := x > trim && passes(first, place[0], place[1]) && passes(second, place[0], place[1])
						checkJudge(t, "s", w, !areAsked || one.data == two.data)
						w.Torn = true
						checkJudge(t, "s", w, true)
					}
				}
			}
		}
	}
}

// Any two tales of one place that both are just behind.
func TestJudgeSameTales(t *testing.T) {
	for _, place := range [][2]int{{1, 1}, {1, 30}, {2, 7}} {
		x := at(place[0], place[1])
		behind := [2]int{place[0], place[1] + 1}
		for _, one := range tales(x) {
			for _, two := range tales(x) {
				w := oneSent(impl.Sent{At: x, Data: "a"}, 0, behind, behind)
				w.Readers[0].Out, w.Readers[1].Out = one.told, two.told
				checkJudge(t, "s", w, one.data == two.data)
				w.Register.Trim = x
				checkJudge(t, "s", w, true)
				w.Register.Trim, w.Torn = 0, true
				checkJudge(t, "s", w, true)
				for i := range 2 {
					w.Torn, w.Readers[i].Off = false, place[1]
					checkJudge(t, "s", w, true)
					w.Readers[i].Off++
				}
			}
		}
	}
}

// What is told of no place, or by a reader ahead of where it is, is not asked.
func TestJudgeSameNoPlace(t *testing.T) {
	for _, where := range [][2]int{{2, 61}, {3, 1}, {31, 61}} {
		for _, place := range notPlaces() {
			w := oneSent(impl.Sent{At: at(1, 1), Data: "a"}, 0, where, where)
			w.Readers[0].Out = []impl.Event{{Kind: evData, At: place, Data: "a"}}
			for _, x := range bothWays(w) {
				checkVerdicts(t, x, "okws")
				x.Readers[0].Out, x.Readers[1].Out = []impl.Event{{Kind: evData, At: place, Data: "a"}}, []impl.Event{{Kind: evData, At: place, Data: "b"}}
				checkVerdicts(t, x, "okws")
			}
		}
	}
	// An epoch that is not there has places, too.
	w := oneSent(impl.Sent{At: at(1, 1), Data: "a"}, 0, [2]int{31, 61}, [2]int{30, 61})
	w.Readers[0].Out = []impl.Event{{Kind: evData, At: at(30, 60), Data: "a"}}
	checkVerdicts(t, w, "okw")
	w.Readers[1].Off = 60
	checkVerdicts(t, w, "okws")
}

// Each place is asked: the first and the last of many, told by the one, by the other, or with other Data.
func TestJudgeSameEach(t *testing.T) {
	t.Parallel()
	var told []impl.Event
	var sent []impl.Sent
	for i := range mostOut {
		x := at(1+i/60, 1+i%60)
		told = append(told, impl.Event{Kind: evData, At: x, Data: "s"})
		sent = append(sent, impl.Sent{At: x, Data: "s"})
	}
	w := worldOfSent(2, sent...)
	w.Readers = []impl.Reader{{Epoch: 2, Off: 61, Out: told}, {Epoch: 2, Off: 61, Out: told}}
	checkVerdicts(t, w, allSo)
	for i := range told {
		for reader := range 2 {
			checkVerdicts(t, changedWorld(w, func(w *impl.World) { w.Readers[reader].Out[i].Kind = evHole }), "otkw")
			checkVerdicts(t, changedWorld(w, func(w *impl.World) { w.Readers[reader].Out[i].Data = "z" }), "okw")
			checkVerdicts(t, changedWorld(w, func(w *impl.World) {
				w.Readers[reader].Out = slices.Delete(w.Readers[reader].Out, i, i+1)
			}), "otkw")
			checkVerdicts(t, changedWorld(w, func(w *impl.World) {
				w.Readers[reader].Out = w.Readers[reader].Out[:i]
				w.Readers[reader].Epoch, w.Readers[reader].Off = 1+i/60, 1+i%60
			}), allSo)
		}
	}
}

// What neither of both told is the same, and yet not kept; no Data is not the same as nothing told.
func TestJudgeBoth(t *testing.T) {
	a, none := toldData(1, "a"), toldData(2, "")
	checkVerdicts(t, judgedWorld([]impl.Event{a}, []impl.Event{a}), "otws")
	w := judgedWorld([]impl.Event{a, none}, []impl.Event{a})
	w.Sent[1] = impl.Sent{At: at(1, 2)}
	checkVerdicts(t, w, "otkw")
	w.Readers[1].Out = w.Readers[0].Out
	checkVerdicts(t, w, allSo)
}

// A torn world is asked only for order and truth; what is given up need not be told, nor what no reader passed.
func TestJudgeTornAndTrimmed(t *testing.T) {
	a, b := toldData(1, "a"), toldData(2, "b")
	lost := judgedWorld([]impl.Event{{Kind: evLoss, At: at(1, 1)}}, []impl.Event{a, b})
	checkVerdicts(t, lost, "ot")
	lost.Torn = true
	checkVerdicts(t, lost, allSo)
	lost.Readers[0].Out = []impl.Event{b, toldData(1, "x")}
	checkVerdicts(t, lost, "kws")
	w := judgedWorld([]impl.Event{b}, []impl.Event{a, b})
	w.Register.Trim = at(1, 1)
	checkVerdicts(t, w, allSo)
	w = judgedWorld([]impl.Event{a}, []impl.Event{a, b})
	w.Register.Trim = at(1, 1)
	checkVerdicts(t, w, "otw")
	w.Register.Trim, w.Readers[0].Off = 0, 2
	checkVerdicts(t, w, allSo)
	// One that tells a place has to be behind it, to be asked whether the other one told the same.
	w = judgedWorld([]impl.Event{a, b, toldData(3, "c")}, []impl.Event{a, b})
	w.Readers[0].Off = 4
	checkVerdicts(t, w, allSo)
	w.Readers[0].Off, w.Readers[1].Off = 3, 4
	checkVerdicts(t, w, allSo)
	w.Readers[0].Off = 4
	checkVerdicts(t, w, "otkw")
	w.Readers[1] = impl.Reader{Epoch: 2, Off: 1, Out: w.Readers[1].Out}
	checkVerdicts(t, w, "otkw")
}

// Five faults that do not touch each other, in every choice, of a world that is torn and of one that is not: each judge sees its own alone.
func TestJudgeEachAlone(t *testing.T) {
	for mask := range 32 {
		for _, torn := range []bool{false, true} {
			w := faultyWorld(mask)
			w.Torn = torn
			want := ""
			for i, letter := range strings.Split(allSo[:5], "") {
				if mask>>i&1 == 0 || torn && i >= 2 {
					want += letter
				}
			}
			if want == allSo[:5] {
				want = allSo
			}
			for _, x := range bothWays(w) {
				checkVerdicts(t, x, want)
			}
		}
	}
}

// faultyWorld has by the bits of the mask: two holes that descend; what was not sent; one that is sure and not told; a loss; what one reader told alone.
func faultyWorld(mask int) impl.World {
	has := func(i int) bool { return mask>>i&1 == 1 }
	w := judgedWorld(nil, nil)
	w.Sent = append(w.Sent[:2], impl.Sent{At: at(1, 4), Data: "d"})
	w.Readers[0].Off, w.Readers[1].Off = 5, 5
	tell := func(reader int, list ...impl.Event) { w.Readers[reader].Out = append(w.Readers[reader].Out, list...) }
	for reader := range 2 {
		tell(reader, toldData(1, "a"))
		if !has(2) {
			tell(reader, toldData(2, "b"))
		}
	}
	if has(3) {
		tell(0, impl.Event{Kind: evLoss, At: at(1, 3)})
	}
	tell(0, toldData(4, "d"))
	if !has(4) {
		tell(1, toldData(4, "d"))
	}
	if has(1) {
		tell(1, toldData(5, "x"))
	}
	if has(0) {
		tell(1, impl.Event{Kind: evHole, At: at(1, 7)}, impl.Event{Kind: evHole, At: at(1, 6)})
	}
	return w
}

// Just one of the five is false.
func TestJudgeAllOne(t *testing.T) {
	for i, want := range []string{"tkws", "okws", "otws", "otks", "otkw"} {
		for _, w := range bothWays(faultyWorld(1 << i)) {
			checkVerdicts(t, w, want)
			if impl.JudgeAll(w) {
				t.Fatalf("all is well in %s", whole(w))
			}
		}
	}
	checkVerdicts(t, faultyWorld(0), allSo)
	checkVerdicts(t, faultyWorld(31), "")
}

// drawnTale tells of few places, mostly in order and what was sent.
func drawnTale(drawn *rand.Rand, sent []impl.Sent) []impl.Event {
	var told []impl.Event
	for _, s := range sent {
		e := impl.Event{Kind: evData, At: s.At, Data: s.Data}
		switch drawn.Intn(40) {
		case 0:
			e.Kind = drawn.Intn(7)
		case 1:
			e.Data += "x"
		case 2:
			e.At += drawn.Intn(5) - 2
		case 3, 4:
			continue
		case 5:
			told = append(told, e)
		}
		told = append(told, e)
	}
	return told
}

func TestJudgeDrawnWorlds(t *testing.T) {
	t.Parallel()
	drawn := rand.New(rand.NewSource(14))
	said := map[string]int{}
	for range 30000 {
		w := twoWorld()
		w.Sent = nil
		for off := 1; off <= 60; off += 1 + drawn.Intn(3)*drawn.Intn(20) {
			w.Sent = append(w.Sent, impl.Sent{At: at(1+drawn.Intn(2)*off/61, off), Data: string(rune('a' + off)), Sure: drawn.Intn(2) == 0})
			if len(w.Sent) > drawn.Intn(12) {
				break
			}
		}
		if drawn.Intn(3) == 0 {
			w.Register.Trim = at(1+drawn.Intn(4)/3, 1+drawn.Intn(8))
		}
		w.Torn = drawn.Intn(8) == 0
		second := drawnTale(drawn, w.Sent)
		w.Readers = []impl.Reader{{Epoch: 1, Off: 1 + drawn.Intn(12), Out: drawnTale(drawn, w.Sent)}, {Epoch: 1 + drawn.Intn(8)/7, Off: 1 + drawn.Intn(12), Out: second}}
		got := verdicts(w)
		checkVerdicts(t, w, verdictsAre(w))
		for i := range allSo {
			if !strings.Contains(got, allSo[i:i+1]) {
				said[allSo[i:i+1]]++
			}
		}
		said[got]++
	}
	for i := range allSo {
		if said[allSo[i:i+1]] < 500 {
			t.Errorf("%s was false %d times only", allSo[i:i+1], said[allSo[i:i+1]])
		}
	}
	if said[allSo] < 500 {
		t.Errorf("all was well %d times only", said[allSo])
	}
}

// drawnRow does deeds to a new world, and asks at each; seen is told the world behind each.
func drawnRow(seed int, c impl.Config, length int, next func(*rand.Rand, impl.World) impl.Deed, seen func(impl.World)) {
	drawn := rand.New(rand.NewSource(int64(seed)))
	w, _ := impl.WorldNew(c)
	for range length {
		w, _ = impl.WorldDo(w, next(drawn, w))
		seen(w)
	}
}

// mixedStep brings things on, or does anything.
func mixedStep(drawn *rand.Rand, w impl.World) impl.Deed {
	if drawn.Intn(4) == 0 {
		return drawnDeed(drawn, w)
	}
	return nextStep(drawn, w)
}

// carefulStep does not lose a node where that would tear the world, and gives up nothing.
func carefulStep(drawn *rand.Rand, w impl.World) impl.Deed {
	for {
		d := mixedStep(drawn, w)
		lost := append(slices.Clone(w.Lost), d.A)
		slices.Sort(lost)
		if d.Kind != 13 && (d.Kind != 6 || !isHeld(w.Config, lost)) {
			return d
		}
	}
}

// recklessStep loses nodes often, once something is told.
func recklessStep(drawn *rand.Rand, w impl.World) impl.Deed {
	if len(w.Readers[0].Out) > 1 && drawn.Intn(12) == 0 {
		return loseDeed(drawnNode(drawn, w))
	}
	return mixedStep(drawn, w)
}

// Whatever is done to a new world, all is well; it is not torn, where so many are not lost.
func TestJudgeDrawnRows(t *testing.T) {
	t.Parallel()
	for seed := range 120 {
		drawnRow(seed, deedConfigs()[seed%6], 250, mixedStep, func(w impl.World) { checkVerdicts(t, w, allSo) })
	}
	told, sure := 0, 0
	for seed := range 60 {
		var last impl.World
		drawnRow(seed, deedConfigs()[seed%6], 400, carefulStep, func(w impl.World) {
			checkVerdicts(t, w, allSo)
			last = w
		})
		if last.Torn {
			t.Fatalf("%s is torn", whole(last))
		}
		for _, s := range last.Sent {
			if s.Sure && isBehind(last.Readers[0], s.At) && isBehind(last.Readers[1], s.At) {
				sure++
			}
		}
		told += countKind(last.Readers[0], evData) + countKind(last.Readers[1], evData)
	}
	if told < 600 || sure < 250 {
		t.Errorf("%d are told, %d are sure and passed by both", told, sure)
	}
}

// Of rows that tear it, order and truth hold by what readers told; the other three are not asked any more, whatever is told.
func TestJudgeTornRows(t *testing.T) {
	t.Parallel()
	torn, spoilt := 0, 0
	for seed := range 90 {
		drawnRow(seed, deedConfigs()[seed%6], 250, recklessStep, func(w impl.World) {
			checkVerdicts(t, w, allSo)
			if !w.Torn {
				return
			}
			torn++
			if len(w.Readers[0].Out) == 0 || torn%10 != 0 {
				return
			}
			spoilt++
			checkVerdicts(t, changedWorld(w, func(w *impl.World) { w.Readers[0].Out = w.Readers[0].Out[1:] }), allSo)
			checkVerdicts(t, changedWorld(w, func(w *impl.World) {
				w.Readers[1].Out = []impl.Event{{Kind: evLoss, At: at(1, 1)}}
			}), allSo)
			checkVerdicts(t, changedWorld(w, func(w *impl.World) {
				w.Readers[1].Out = []impl.Event{{Kind: evData, At: at(1, 1), Data: "never sent"}, {Kind: evHole, At: at(1, 1)}}
			}), "kws")
		})
	}
	if torn < 3000 || spoilt < 200 {
		t.Errorf("%d are torn, %d were spoilt", torn, spoilt)
	}
}

// A world that is torn: what it told stays true, and the other three hold for that alone.
func TestJudgeTearing(t *testing.T) {
	w := after(t, emptyWorld(conf(2, 0, 1, 2)), openDeed(7), addDeed(0, "a"), storeDeed(0, 1, 0), storeDeed(0, 1, 1), syncDeed(0), syncDeed(1), readDeed(0, 7), loseDeed(0))
	lacks := func(w impl.World) impl.World {
		return changedWorld(w, func(w *impl.World) { w.Readers[0].Out[0].Kind = evLoss })
	}
	checkVerdicts(t, w, allSo)
	checkVerdicts(t, lacks(w), "ots")
	w = after(t, w, loseDeed(2))
	checkVerdicts(t, w, allSo)
	checkVerdicts(t, lacks(w), allSo)
	w = after(t, w, loseDeed(1))
	checkVerdicts(t, lacks(w), allSo)
}

// story does these to a new world of three nodes, done or not, and asks at each.
func story(t *testing.T, list ...impl.Deed) impl.World {
	t.Helper()
	w := emptyWorld(conf(2, 0, 1, 2))
	for _, d := range list {
		w, _ = impl.WorldDo(w, d)
		checkVerdicts(t, w, allSo)
	}
	return w
}

// lackingEpoch leaves a first epoch, of which node 0 alone has the first word, and node 1 the second one; nodes 1 and 2 are sealed, and the first word is a hole then.
func lackingEpoch() []impl.Deed {
	return []impl.Deed{openDeed(7), addDeed(0, "a"), addDeed(0, "b"), storeDeed(0, 1, 0), syncDeed(0), storeDeed(0, 2, 1), syncDeed(1), openDeed(7), mendDeed(), sealDeed(1), sealDeed(2), planDeed()}
}

// readAll has each reader read twice, from other nodes than the other one.
func readAll() []impl.Deed {
	return []impl.Deed{readDeed(0, 3), readDeed(1, 6), readDeed(0, 3), readDeed(1, 6), readDeed(0, 5), readDeed(1, 3)}
}

func checkTold(t *testing.T, w impl.World, want ...impl.Event) {
	t.Helper()
	for i, r := range w.Readers {
		if !slices.Equal(r.Out, want) {
			t.Fatalf("reader %d told %v, not %v", i, r.Out, want)
		}
	}
}

// A hole stands over what a node kept that was not sealed: both readers tell it, whichever nodes they ask.
func TestJudgeHoleStands(t *testing.T) {
	hole, b, era := impl.Event{Kind: evHole, At: at(1, 1)}, toldData(2, "b"), impl.Event{Kind: evEra, At: 2}
	written := []impl.Deed{fixDeed(1, 1), fixDeed(2, 1), syncDeed(1), fixDeed(1, 2), fixDeed(2, 2), syncDeed(2), closeDeed()}
	checkTold(t, story(t, slices.Concat(lackingEpoch(), written, readAll())...), hole, b, era)
	// Node 1 loses what the mend wrote there, and is filled by what node 0 has: the mend has to write there again.
	lost := []impl.Deed{fixDeed(1, 1), fixDeed(2, 1), syncDeed(1), loseDeed(1), fillDeed(1), fixDeed(1, 2), fixDeed(2, 2), syncDeed(2), closeDeed()}
	w := story(t, slices.Concat(lackingEpoch(), lost, readAll())...)
	checkTold(t, w)
	again := []impl.Deed{fixDeed(1, 1), fixDeed(2, 1), syncDeed(1), closeDeed()}
	checkTold(t, story(t, slices.Concat(lackingEpoch(), lost, readAll(), again, readAll())...), hole, b, era)
}

// A node that has nothing there, or something else, has not what the mend is to write: it is not closed ahead of that.
func TestJudgeHoleLacks(t *testing.T) {
	read := []impl.Deed{readDeed(0, 5), readDeed(1, 3), readDeed(0, 5), readDeed(1, 3), readDeed(0, 5), readDeed(1, 3)}
	half := []impl.Deed{fixDeed(1, 1), fixDeed(2, 1), syncDeed(1), syncDeed(0), syncDeed(2), closeDeed(), fixDeed(2, 2), syncDeed(2), syncDeed(0), closeDeed()}
	checkTold(t, story(t, slices.Concat(lackingEpoch(), half, read)...))
	rest := []impl.Deed{fixDeed(1, 2), syncDeed(2), closeDeed()}
	checkTold(t, story(t, slices.Concat(lackingEpoch(), half, rest, read)...), impl.Event{Kind: evHole, At: at(1, 1)}, toldData(2, "b"), impl.Event{Kind: evEra, At: 2})
}

// What one node alone kept may be found by a later mend, if none told or wrote that it is a hole.
func TestJudgeLaterMend(t *testing.T) {
	a, b, era := toldData(1, "a"), toldData(2, "b"), impl.Event{Kind: evEra, At: 2}
	late := []impl.Deed{openDeed(7), mendDeed(), sealDeed(0), sealDeed(1), planDeed(), fixDeed(1, 0), fixDeed(2, 0), syncDeed(0), fixDeed(1, 1), fixDeed(2, 1), syncDeed(1), closeDeed()}
	checkTold(t, story(t, slices.Concat(lackingEpoch(), late, readAll())...), a, b, era)
	// One node that has the hole already is enough for it to stand, where it is asked.
	hole := impl.Event{Kind: evHole, At: at(1, 1)}
	half := []impl.Deed{fixDeed(1, 1), fixDeed(2, 1), syncDeed(1)}
	checkTold(t, story(t, slices.Concat(lackingEpoch(), half, late, readAll())...), hole, b, era)
}

// What one reader told, and is given up then, the other one need not tell.
func TestJudgeGivenUpBetween(t *testing.T) {
	sure := []impl.Deed{openDeed(7), addDeed(0, "a"), addDeed(0, "b"), storeDeed(0, 1, 0), storeDeed(0, 2, 0), syncDeed(0), storeDeed(0, 1, 1), storeDeed(0, 2, 1), syncDeed(1), readDeed(0, 3), readDeed(0, 3)}
	given := []impl.Deed{trimDeed(at(1, 1)), pruneDeed(0), pruneDeed(1), readDeed(1, 6), readDeed(1, 6)}
	w := story(t, slices.Concat(sure, given)...)
	if want := []impl.Event{{Kind: evTrim, At: at(1, 1)}, toldData(2, "b")}; !slices.Equal(w.Readers[1].Out, want) {
		t.Fatalf("%v", w.Readers[1].Out)
	}
	w.Register.Trim = 0
	checkVerdicts(t, w, "otw")
}

// judgedWorlds are of all sorts: right and not, torn, with faults.
func judgedWorlds() []impl.World {
	list := append(deedWorlds(), mostWorld(), rightFive(), judgedWorld([]impl.Event{toldData(1, "a")}, []impl.Event{toldData(2, "b")}))
	for _, mask := range []int{0, 1, 2, 4, 8, 16, 31} {
		list = append(list, faultyWorld(mask), changedWorld(faultyWorld(mask), func(w *impl.World) { w.Torn = true }))
	}
	return list
}

func TestJudgeWritesNothing(t *testing.T) {
	for _, w := range judgedWorlds() {
		laid := layDown(w)
		before := laid.look()
		for i, isSo := range judges() {
			if got := isSo(laid.given); !laid.isStill(before) || got != strings.Contains(verdictsAre(w), allSo[i:i+1]) {
				t.Fatalf("judge %d wrote into %s", i, whole(w))
			}
		}
	}
}

// One memory may be what both readers told, and all lists of numbers.
func TestJudgeOneMemory(t *testing.T) {
	told := []impl.Event{toldData(1, "a"), toldData(2, "b"), {Kind: evLoss, At: at(1, 3)}}
	for size := range 4 {
		w := judgedWorld(nil, nil)
		w.Readers[0].Out, w.Readers[1].Out = told[:size], told[:min(2, size)]
		checkVerdicts(t, w, []string{"otws", "otws", allSo, "otks"}[size])
		if !slices.Equal(told, []impl.Event{toldData(1, "a"), toldData(2, "b"), {Kind: evLoss, At: at(1, 3)}}) {
			t.Fatal("a judge wrote into what was told")
		}
	}
}

// Nothing is kept from call to call: what is said is the same whatever was asked ahead of it.
func TestJudgeAgain(t *testing.T) {
	worlds := judgedWorlds()
	for seed := range 3 {
		drawn := rand.New(rand.NewSource(int64(seed)))
		for _, i := range drawn.Perm(len(worlds) * len(judges())) {
			w, judge := worlds[i%len(worlds)], i/len(worlds)
			if judges()[judge](w) != strings.Contains(verdictsAre(w), allSo[judge:judge+1]) {
				t.Fatalf("judge %d of %s", judge, whole(w))
			}
		}
	}
}
