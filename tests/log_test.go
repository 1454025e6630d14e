package tests

import (
	"math"
	"math/rand"
	"slices"
	"strconv"
	"strings"
	"sync"
	"testing"

	"loop.example/g00178/impl"
)

// logIs is what LogOf must answer, by a model of the tests' own: it goes through all places that there are.
func logIs(w impl.World) []impl.Sent {
	if !isWorld(w) {
		return nil
	}
	sent := map[int]impl.Sent{}
	for _, s := range w.Sent {
		sent[s.At] = s
	}
	var list []impl.Sent
	for epoch := 1; epoch <= lastEpoch; epoch++ {
		for off := 1; off <= lastOff; off++ {
			if s := sent[at(epoch, off)]; s.Sure && at(epoch, off) > w.Register.Trim {
				list = append(list, s)
			}
		}
	}
	return list
}

// logAtIs is what LogAt must answer; it asks for the one place alone.
func logAtIs(w impl.World, place int) (string, bool) {
	if !isWorld(w) || place <= w.Register.Trim {
		return "", false
	}
	for _, s := range w.Sent {
		if s.Sure && s.At == place {
			return s.Data, true
		}
	}
	return "", false
}

// toldByIs is what ToldBy must answer.
func toldByIs(w impl.World, reader int) []impl.Sent {
	var list []impl.Sent
	if !isWorld(w) || reader != 0 && reader != 1 {
		return list
	}
	for _, e := range w.Readers[reader].Out {
		if e.Kind == evData {
			list = append(list, impl.Sent{At: e.At, Data: e.Data, Sure: true})
		}
	}
	return list
}

func checkLogOf(t *testing.T, w impl.World) []impl.Sent {
	t.Helper()
	got := impl.LogOf(w)
	if want := logIs(w); !slices.Equal(got, want) {
		t.Fatalf("LogOf of %s: %s; want %s", whole(w), shown(got), shown(want))
	}
	return got
}

func checkLogAt(t *testing.T, w impl.World, place int) (string, bool) {
	t.Helper()
	got, ok := impl.LogAt(w, place)
	if want, wantOk := logAtIs(w, place); got != want || ok != wantOk {
		t.Fatalf("LogAt of %s, %d: %.90q, %v; want %.90q, %v", whole(w), place, got, ok, want, wantOk)
	}
	return got, ok
}

func checkToldBy(t *testing.T, w impl.World, reader int) []impl.Sent {
	t.Helper()
	got := impl.ToldBy(w, reader)
	if want := toldByIs(w, reader); !slices.Equal(got, want) {
		t.Fatalf("ToldBy of %s, %d: %s; want %s", whole(w), reader, shown(got), shown(want))
	}
	return got
}

// The three below are as the document has it, and not by the model; that one must say the same.

// checkLog asks for each place of the log too, and for what stands next to it.
func checkLog(t *testing.T, w impl.World, want ...impl.Sent) {
	t.Helper()
	if got := checkLogOf(t, w); !slices.Equal(got, want) {
		t.Fatalf("LogOf of %s: %s, not %s", whole(w), shown(got), shown(want))
	}
	for _, s := range want {
		if data, ok := checkLogAt(t, w, s.At); data != s.Data || !ok {
			t.Fatalf("LogAt of %s, %d: %.90q, %v", whole(w), s.At, data, ok)
		}
		checkLogAt(t, w, s.At-1)
		checkLogAt(t, w, s.At+1)
	}
}

func checkNotInLog(t *testing.T, w impl.World, places ...int) {
	t.Helper()
	for _, place := range places {
		if data, ok := checkLogAt(t, w, place); data != "" || ok {
			t.Fatalf("LogAt of %s, %d: %.90q, %v", whole(w), place, data, ok)
		}
	}
}

func checkTellsAgain(t *testing.T, w impl.World, reader int, want ...impl.Sent) {
	t.Helper()
	if got := checkToldBy(t, w, reader); !slices.Equal(got, want) {
		t.Fatalf("ToldBy of %s, %d: %s, not %s", whole(w), reader, shown(got), shown(want))
	}
}

func sureSent(epoch int, off int, data string) impl.Sent {
	return impl.Sent{At: at(epoch, off), Data: data, Sure: true}
}

func openSent(epoch int, off int, data string) impl.Sent {
	return impl.Sent{At: at(epoch, off), Data: data}
}

// sentWorld has four epochs, of which the first is closed, and just that sent.
func sentWorld(trim int, list ...impl.Sent) impl.World {
	w := emptyWorld(conf(2, 0, 1, 2))
	w.Register = impl.Register{Eras: []impl.Era{closedEra(60, 0, 1, 2), openEra(0, 1), openEra(0, 1, 2), openEra(1, 2)}, Trim: trim}
	w.Sent = list
	return w
}

// tellingWorld has readers that told just that.
func tellingWorld(first []impl.Event, second []impl.Event) impl.World {
	w := sentWorld(0)
	w.Readers = []impl.Reader{{Epoch: 2, Off: 3, Out: first}, {Epoch: 1, Off: 1, Out: second}}
	return w
}

// By deeds: what was sent is in the log when it is sure, and as long as it is not given up.
func TestLogByDeeds(t *testing.T) {
	w := emptyWorld(conf(2, 0, 1, 2))
	checkLog(t, w)
	w = after(t, w, openDeed(7), addDeed(0, "a"), addDeed(0, ""), addDeed(0, "c"))
	checkLog(t, w)
	checkNotInLog(t, w, at(1, 1), at(1, 2), at(1, 3))
	w = after(t, w, storeDeed(0, 1, 0), storeDeed(0, 2, 0), syncDeed(0), storeDeed(0, 2, 1))
	checkLog(t, w)
	w = after(t, w, syncDeed(1))
	checkLog(t, w, sureSent(1, 2, ""))
	checkNotInLog(t, w, at(1, 1), at(1, 3), at(1, 4))
	w = after(t, w, storeDeed(0, 1, 2), syncDeed(2))
	checkLog(t, w, sureSent(1, 1, "a"), sureSent(1, 2, ""))
	w = after(t, w, readDeed(1, 255))
	checkTellsAgain(t, w, 1, sureSent(1, 1, "a"))
	checkTellsAgain(t, w, 0)
	w = after(t, w, readDeed(1, 255), trimDeed(at(1, 1)))
	checkLog(t, w, sureSent(1, 2, ""))
	checkNotInLog(t, w, at(1, 1))
	checkTellsAgain(t, w, 1, sureSent(1, 1, "a"), sureSent(1, 2, ""))
	w = after(t, w, readDeed(0, 255), readDeed(0, 255))
	checkTellsAgain(t, w, 0, sureSent(1, 2, ""))
	w = after(t, w, trimDeed(at(1, 60)))
	checkLog(t, w)
	checkTellsAgain(t, w, 0, sureSent(1, 2, ""))
}

// Of a world that is not right nothing is told, whatever is wrong; of fiveWorld, which all but the first three are nearly, there would be a log and tales.
func TestLogNotWorld(t *testing.T) {
	right := fiveWorld()
	right.Readers[1].Out = []impl.Event{toldData(1, "a")}
	checkLog(t, right, sureSent(3, 1, "c"))
	checkTellsAgain(t, right, 1, sureSent(1, 1, "a"))
	list := badWorlds()
	for _, wrong := range worldBreaks() {
		list = append(list, changedWorld(right, wrong.change))
	}
	list = append(list, changedWorld(sentWorld(0, sureSent(1, 1, "a")), func(w *impl.World) { w.Config.Copies = 0 }), sentWorld(at(5, 1), sureSent(1, 1, "a")), sentWorld(0, sureSent(1, 1, "a"), sureSent(5, 1, "b")))
	for _, w := range list {
		checkWorldOk(t, w, false)
		checkLog(t, w)
		for _, s := range w.Sent {
			checkNotInLog(t, w, s.At)
		}
		checkNotInLog(t, w, -1, 0, 1, at(1, 1), at(3, 1))
		for _, reader := range []int{-1, 0, 1, 2} {
			checkTellsAgain(t, w, reader)
		}
	}
}

func TestLogNothingSent(t *testing.T) {
	for _, c := range someConfigs() {
		checkLog(t, emptyWorld(c))
		checkNotInLog(t, emptyWorld(c), 0, at(1, 1), at(30, 60))
		for _, reader := range []int{0, 1} {
			checkTellsAgain(t, emptyWorld(c), reader)
		}
	}
	// The log is what was sent, not what nodes keep or readers told.
	w := tellingWorld([]impl.Event{toldData(1, "a")}, nil)
	w.Stores[0], w.Stores[1] = storeWith(impl.Entry{At: at(1, 1), Data: "a"}), storeWith(impl.Entry{At: at(1, 1), Data: "a"})
	w.Writers = []impl.Writer{writerWith(2, doneWord("b", 0, 1))}
	checkLog(t, w)
	checkNotInLog(t, w, at(1, 1), at(2, 1))
	checkTellsAgain(t, w, 0, sureSent(1, 1, "a"))
}

// Each of five is sure or not: just those that are sure are in the log.
func TestLogSureEvery(t *testing.T) {
	for mask := range 32 {
		sent := []impl.Sent{openSent(1, 1, "a"), openSent(1, 2, ""), openSent(1, 60, "c"), openSent(2, 1, "a"), openSent(4, 30, "e")}
		var want []impl.Sent
		for i := range sent {
			if mask>>i&1 == 1 {
				sent[i].Sure = true
				want = append(want, sent[i])
			}
		}
		w := sentWorld(0, sent...)
		checkLog(t, w, want...)
		for i, s := range sent {
			if mask>>i&1 == 0 {
				checkNotInLog(t, w, s.At)
			}
		}
	}
}

// What is at Trim is given up, what is one above is not; all is above none, and nothing above the last place.
func TestLogTrimEdges(t *testing.T) {
	a, b, c := sureSent(1, 5, "a"), sureSent(1, 6, "b"), sureSent(2, 1, "c")
	for _, x := range []struct {
		trim int
		want []impl.Sent
	}{
		{0, []impl.Sent{a, b, c}}, {at(1, 1), []impl.Sent{a, b, c}}, {at(1, 4), []impl.Sent{a, b, c}}, {at(1, 5), []impl.Sent{b, c}}, {at(1, 6), []impl.Sent{c}}, {at(1, 7), []impl.Sent{c}}, {at(1, 60), []impl.Sent{c}}, {at(2, 1), nil}, {at(2, 2), nil}, {at(4, 60), nil},
	} {
		w := sentWorld(x.trim, a, b, c)
		checkLog(t, w, x.want...)
		for _, s := range []impl.Sent{a, b, c} {
			if !slices.Contains(x.want, s) {
				checkNotInLog(t, w, s.At)
			}
		}
		checkLog(t, sentWorld(x.trim, openSent(1, 5, "a"), openSent(1, 6, "b"), openSent(2, 1, "c")))
	}
}

// Each place may be given up up to, and each may be sure.
func TestLogTrimEvery(t *testing.T) {
	places := []int{at(1, 1), at(1, 2), at(1, 59), at(1, 60), at(2, 1), at(2, 2), at(3, 60), at(4, 1), at(4, 60)}
	for _, trim := range append([]int{0}, places...) {
		for _, place := range places {
			w := sentWorld(trim, impl.Sent{At: place, Data: "x", Sure: true})
			if place > trim {
				checkLog(t, w, w.Sent...)
			} else {
				checkLog(t, w)
				checkNotInLog(t, w, place)
			}
		}
	}
}

func TestLogEpochs(t *testing.T) {
	sent := []impl.Sent{sureSent(1, 1, "one"), openSent(1, 2, "two"), sureSent(1, 60, "one"), sureSent(2, 1, ""), sureSent(3, 1, strings.Repeat("x", mostData)), openSent(3, 2, "x"), sureSent(4, 60, "last")}
	checkLog(t, sentWorld(0, sent...), sent[0], sent[2], sent[3], sent[4], sent[6])
	checkLog(t, sentWorld(at(1, 60), sent...), sent[3], sent[4], sent[6])
	checkLog(t, sentWorld(at(2, 60), sent...), sent[4], sent[6])
	checkLog(t, sentWorld(at(3, 2), sent...), sent[6])
}

// As much as can be sent, all of it sure, or every second one.
func TestLogMost(t *testing.T) {
	w := changedWorld(mostWorld(), func(w *impl.World) { w.Register.Trim = 0 })
	checkWorldOk(t, w, true)
	if got := checkLogOf(t, w); len(got) != mostSent/2 {
		t.Errorf("%d are in the log", len(got))
	}
	for i := range w.Sent {
		w.Sent[i].Sure = true
	}
	checkLog(t, w, w.Sent...)
	w.Register.Trim = w.Sent[mostSent/2-1].At
	checkLog(t, w, w.Sent[mostSent/2:]...)
	w.Register.Trim = at(30, 60)
	checkLog(t, w)
	for reader := range 2 {
		w.Readers[reader].Out = nil
		var want []impl.Sent
		for i := range mostOut {
			w.Readers[reader].Out = append(w.Readers[reader].Out, impl.Event{Kind: evData, At: at(1+i/60, 1+i%60), Data: strconv.Itoa(i + reader)})
			want = append(want, sureSent(1+i/60, 1+i%60, strconv.Itoa(i+reader)))
		}
		checkTellsAgain(t, w, reader, want...)
	}
}

// Beside a false the text is empty; beside a true it may be.
func TestLogAtPlaces(t *testing.T) {
	w := sentWorld(at(1, 2), sureSent(1, 1, "given up"), sureSent(1, 2, "given up too"), sureSent(1, 3, ""), openSent(1, 4, "not sure"), sureSent(1, 60, "z"), openSent(2, 1, ""), sureSent(3, 7, "c"))
	checkLog(t, w, sureSent(1, 3, ""), sureSent(1, 60, "z"), sureSent(3, 7, "c"))
	if data, ok := impl.LogAt(w, at(1, 3)); data != "" || !ok {
		t.Errorf("what is empty: %q, %v", data, ok)
	}
	checkNotInLog(t, w, at(1, 1), at(1, 2), at(1, 4), at(1, 5), at(1, 59), at(2, 1), at(2, 2), at(3, 6), at(3, 8), at(4, 1), at(5, 1), at(30, 60))
	checkNotInLog(t, w, notPlaces()...)
	checkNotInLog(t, w, -at(1, 3), -at(3, 7), at(1, 3)-1<<62, at(1, 3)+1<<62, math.MinInt+at(1, 3))
	for epoch := range lastEpoch + 2 {
		for off := range lastOff + 2 {
			checkLogAt(t, w, at(epoch, off))
		}
	}
}

// Texts come back as the bytes they are.
func TestLogData(t *testing.T) {
	var sent []impl.Sent
	for i, data := range append(someData(), "\x00", "\xff\xfe", "a\nb", " ", "ä€") {
		sent = append(sent, sureSent(1, 1+i, data))
	}
	checkLog(t, sentWorld(0, sent...), sent...)
	var told []impl.Event
	for _, s := range sent {
		told = append(told, impl.Event{Kind: evData, At: s.At, Data: s.Data})
	}
	checkTellsAgain(t, tellingWorld(told, nil), 0, sent...)
}

func TestToldByReaders(t *testing.T) {
	w := tellingWorld([]impl.Event{toldData(1, "a"), toldData(2, "b")}, []impl.Event{toldData(1, "c")})
	checkTellsAgain(t, w, 0, sureSent(1, 1, "a"), sureSent(1, 2, "b"))
	checkTellsAgain(t, w, 1, sureSent(1, 1, "c"))
	for _, reader := range []int{math.MinInt, -1 << 32, -2, -1, 2, 3, 255, 1 << 32, 1<<32 + 1, 1 << 62, math.MaxInt} {
		checkTellsAgain(t, w, reader)
	}
	w = tellingWorld(nil, []impl.Event{toldData(5, "e")})
	checkTellsAgain(t, w, 0)
	checkTellsAgain(t, w, 1, sureSent(1, 5, "e"))
}

// Of the five kinds data alone is told again, as of all others that are none.
func TestToldByKinds(t *testing.T) {
	data := toldData(1, "a")
	for kind := -1; kind <= 7; kind++ {
		e := impl.Event{Kind: kind, At: at(1, 2), Data: "b"}
		var want []impl.Sent
		if kind == evData {
			want = []impl.Sent{sureSent(1, 2, "b")}
		}
		checkTellsAgain(t, tellingWorld([]impl.Event{e}, nil), 0, want...)
		checkTellsAgain(t, tellingWorld(nil, []impl.Event{e}), 1, want...)
		checkTellsAgain(t, tellingWorld([]impl.Event{data, e, data}, nil), 0, slices.Concat([]impl.Sent{sureSent(1, 1, "a")}, want, []impl.Sent{sureSent(1, 1, "a")})...)
	}
	all := []impl.Event{{Kind: evHole, At: at(1, 1)}, toldData(2, "b"), {Kind: evLoss, At: at(1, 3)}, toldData(4, ""), {Kind: evEra, At: 2}, {Kind: evData, At: at(2, 1), Data: "c"}, {Kind: evTrim, At: at(2, 9)}}
	checkTellsAgain(t, tellingWorld(all, all[4:]), 0, sureSent(1, 2, "b"), sureSent(1, 4, ""), sureSent(2, 1, "c"))
	checkTellsAgain(t, tellingWorld(all, all[4:]), 1, sureSent(2, 1, "c"))
}

// What was told is not held against anything: it comes as it was told, twice where it was told twice, below Trim too, and where nothing was sent.
func TestToldByAsItWas(t *testing.T) {
	told := []impl.Event{toldData(5, "e"), toldData(1, "a"), toldData(5, "f"), {Kind: evData, At: 0, Data: "nowhere"}, {Kind: evData, At: -7, Data: "below"}, {Kind: evData, At: math.MaxInt, Data: strings.Repeat("y", mostData+1)}}
	want := []impl.Sent{sureSent(1, 5, "e"), sureSent(1, 1, "a"), sureSent(1, 5, "f"), {Data: "nowhere", Sure: true}, {At: -7, Data: "below", Sure: true}, {At: math.MaxInt, Data: strings.Repeat("y", mostData+1), Sure: true}}
	w := tellingWorld(told, told[2:3])
	for _, trim := range []int{0, at(1, 3), at(4, 60)} {
		w.Register.Trim = trim
		checkTellsAgain(t, w, 0, want...)
		checkTellsAgain(t, w, 1, want[2])
	}
	w.Sent = []impl.Sent{openSent(1, 5, "another")}
	checkTellsAgain(t, w, 0, want...)
	checkLog(t, w)
	w.Torn = true
	checkTellsAgain(t, w, 0, want...)
}

func TestLogGrid(t *testing.T) {
	sure, told := 0, 0
	for _, w := range slices.Concat(someWorlds(), deedWorlds(), judgedWorlds(), badWorlds()) {
		sure += len(checkLogOf(t, w))
		for _, place := range append(somePlaces(), 0, -1, math.MinInt, math.MaxInt) {
			checkLogAt(t, w, place)
		}
		for _, s := range w.Sent {
			checkLogAt(t, w, s.At)
		}
		for reader := -1; reader <= 2; reader++ {
			told += len(checkToldBy(t, w, reader))
		}
	}
	if sure < 100 || told < 100 {
		t.Errorf("%d are in logs, %d were told", sure, told)
	}
}

// Drawn worlds of any sort, right ones and others.
func TestLogDrawnWorlds(t *testing.T) {
	drawn := rand.New(rand.NewSource(18))
	next := worldDrawer(drawn)
	sure, none := 0, 0
	for range 2500 {
		w := next()
		w.Sent = nil
		for place := range 60 * 5 {
			if drawn.Intn(60) == 0 {
				w.Sent = append(w.Sent, impl.Sent{At: at(1+place/60, 1+place%60), Data: strconv.Itoa(place), Sure: drawn.Intn(3) > 0})
			}
		}
		if len(w.Register.Eras) > 0 {
			w.Register.Trim = drawn.Intn(2) * at(1+drawn.Intn(len(w.Register.Eras)), 1+drawn.Intn(60))
		}
		if drawn.Intn(4) > 0 {
			w.Sent = slices.DeleteFunc(w.Sent, func(s impl.Sent) bool { return s.At/epochStep > len(w.Register.Eras) })
		}
		for i := range w.Readers {
			w.Readers[i].Out = drawnTale(drawn, w.Sent)
		}
		sure += min(1, len(checkLogOf(t, w)))
		none += min(1, len(w.Sent)) - min(1, len(checkLogOf(t, w)))
		for range 6 {
			checkLogAt(t, w, at(1+drawn.Intn(5), drawn.Intn(62)))
		}
		for _, s := range w.Sent {
			checkLogAt(t, w, s.At)
		}
		checkToldBy(t, w, drawn.Intn(4)-1)
	}
	if sure < 300 || none < 300 {
		t.Errorf("%d had a log, %d had none", sure, none)
	}
}

// checkLogGrows is promise 18 of one deed, without a model: nothing goes out of the log but what is given up then, and nothing turns in it; a sync alone adds to it.
func checkLogGrows(t *testing.T, before impl.World, d impl.Deed, after impl.World) {
	t.Helper()
	was, is := impl.LogOf(before), impl.LogOf(after)
	for _, s := range was {
		if s.At > after.Register.Trim && !slices.Contains(is, s) {
			t.Fatalf("%+v: %v is no more in %v", d, s, is)
		}
	}
	for i, s := range is {
		if !slices.Contains(was, s) && d.Kind != 4 || !slices.Contains(after.Sent, s) || !s.Sure || s.At <= after.Register.Trim || i > 0 && s.At <= is[i-1].At {
			t.Fatalf("%+v: %v is in %v", d, s, is)
		}
	}
}

// checkBehindAll is what follows, without a model: of a world that was not torn, what a reader told has all of the log that it passed, as it is there. True where it passed all of a log that is not empty.
func checkBehindAll(t *testing.T, w impl.World, reader int) bool {
	t.Helper()
	log := impl.LogOf(w)
	passed := slices.DeleteFunc(slices.Clone(log), func(s impl.Sent) bool { return !isBehind(w.Readers[reader], s.At) })
	told := slices.DeleteFunc(impl.ToldBy(w, reader), func(s impl.Sent) bool { _, ok := impl.LogAt(w, s.At); return !ok })
	if !w.Torn && !slices.Equal(told, passed) {
		t.Fatalf("of %s reader %d told %v; the log up to there is %v", whole(w), reader, told, passed)
	}
	return !w.Torn && len(log) > 0 && len(passed) == len(log)
}

// readToEnd brings a reader behind all that there is, where that can be done: what is lost is filled, and each epoch that was left is mended.
func readToEnd(w impl.World, reader int) impl.World {
	for _, node := range slices.Clone(w.Lost) {
		w, _ = impl.WorldDo(w, fillDeed(node))
	}
	for isMended := true; isMended; {
		w, isMended = impl.HonestMend(w)
	}
	w, _ = impl.HonestRead(w, reader)
	return w
}

// Drawn deeds at new worlds, with trims and without: whatever happens in between, a reader that comes behind all told the whole log.
func TestLogDrawnRows(t *testing.T) {
	t.Parallel()
	for i, step := range []func(*rand.Rand, impl.World) impl.Deed{carefulStep, mixedStep, recklessStep} {
		onTheWay, atEnd, longest, trimmed := 0, 0, 0, 0
		for seed := range 60 {
			drawn := rand.New(rand.NewSource(int64(seed)))
			w := emptyWorld(deedConfigs()[seed%6])
			for n := range 250 {
				d := step(drawn, w)
				next, _ := impl.WorldDo(w, d)
				checkLogGrows(t, w, d, next)
				w = next
				for reader := range 2 {
					if checkBehindAll(t, w, reader) {
						onTheWay++
					}
				}
				if n%25 == 0 {
					reader := drawn.Intn(2)
					if checkBehindAll(t, readToEnd(w, reader), reader) {
						atEnd++
						longest = max(longest, len(impl.LogOf(w)))
					}
				}
			}
			checkLogOf(t, w)
			trimmed += min(1, w.Register.Trim)
		}
		if onTheWay < 300 || atEnd < 60 || longest < 6 || (trimmed > 0) != (i > 0) {
			t.Errorf("%d: behind all %d times on the way and %d at the end, %d are the most; %d were trimmed", i, onTheWay, atEnd, longest, trimmed)
		}
	}
}

// Of a world that was torn nothing is promised of what is lost, but the log is still what was sent and is sure.
func TestLogTorn(t *testing.T) {
	w := after(t, emptyWorld(conf(2, 0, 1, 2)), openDeed(7))
	for _, data := range []string{"a", "b"} {
		w, _ = impl.HonestAdd(w, 0, data)
	}
	for node := range 3 {
		w = after(t, w, loseDeed(node))
		checkLog(t, w, sureSent(1, 1, "a"), sureSent(1, 2, "b"))
	}
	w, count := impl.HonestRead(w, 0)
	if !w.Torn || count != 0 {
		t.Fatalf("%d, %s", count, whole(w))
	}
	checkTellsAgain(t, w, 0)
}

// heldConfig is a drawn one whose nodes can hold.
func heldConfig(drawn *rand.Rand) impl.Config {
	for {
		if c := drawnConfig(drawn); isConfig(c) && isHeld(c, nodesUpTo(len(c.Domains))) {
			return c
		}
	}
}

// heldMask is one whose nodes hold.
func heldMask(drawn *rand.Rand, c impl.Config) int {
	for {
		if mask := 1 + drawn.Intn(1<<len(c.Domains)-1); isHeld(c, nodesOf(mask)) {
			return mask
		}
	}
}

// writeHonestly has the last writer add so many, which must all come to be sure.
func writeHonestly(t *testing.T, drawn *rand.Rand, w impl.World, size int) (impl.World, []impl.Sent) {
	t.Helper()
	var written []impl.Sent
	writer := len(w.Writers) - 1
	for off := 1; off <= size; off++ {
		data := drawnText(drawn)
		data = data[:min(len(data), mostData)]
		next, ok := impl.HonestAdd(w, writer, data)
		if !ok {
			t.Fatalf("HonestAdd of %s: false", whole(w))
		}
		w, written = next, append(written, sureSent(len(w.Register.Eras), off, data))
	}
	return w, written
}

// A few words honestly written, the epoch left, and honestly mended: both readers tell what was written, in order, also when a node lost all in between and was filled.
func TestLogHonest(t *testing.T) {
	t.Parallel()
	most := 0
	for seed := range 150 {
		drawn := rand.New(rand.NewSource(int64(seed)))
		w := emptyWorld(heldConfig(drawn))
		var all []impl.Sent
		for epoch := 1; epoch <= 3; epoch++ {
			w = after(t, w, openDeed(heldMask(drawn, w.Config)))
			var some []impl.Sent
			w, some = writeHonestly(t, drawn, w, drawn.Intn(6))
			all = append(all, some...)
			checkLog(t, w, all...)
			if node := drawn.Intn(len(w.Stores)); isLost(w.Config, []int{node}) {
				w = after(t, w, loseDeed(node), fillDeed(node))
			}
			if epoch > 1 {
				w = mended(t, w)
			}
			checkLog(t, w, all...)
			if drawn.Intn(2) == 0 {
				w, _ = impl.HonestRead(w, 0)
			}
		}
		for reader := range 2 {
			w, _ = impl.HonestRead(w, reader)
			checkTellsAgain(t, w, reader, all...)
		}
		checkLog(t, w, all...)
		checkVerdicts(t, w, allSo)
		most = max(most, len(all))
	}
	if most < 10 {
		t.Errorf("only %d were written", most)
	}
}

func mended(t *testing.T, w impl.World) impl.World {
	t.Helper()
	w, ok := impl.HonestMend(w)
	if !ok {
		t.Fatalf("HonestMend of %s: false", whole(w))
	}
	return w
}

// The same with nodes that are lost for good, as long as the others are enough, and with a beginning that is given up: the rest is read as it was written.
func TestLogHonestFew(t *testing.T) {
	read, lost, trimmed := 0, 0, 0
	for seed := range 150 {
		drawn := rand.New(rand.NewSource(int64(seed)))
		w := emptyWorld(heldConfig(drawn))
		w = after(t, w, openDeed(1<<len(w.Stores)-1))
		w, all := writeHonestly(t, drawn, w, 1+drawn.Intn(8))
		if drawn.Intn(3) == 0 {
			w = after(t, w, trimDeed(all[drawn.Intn(len(all))].At))
			all = slices.DeleteFunc(all, func(s impl.Sent) bool { return s.At <= w.Register.Trim })
			trimmed++
		}
		for _, node := range drawn.Perm(len(w.Stores)) {
			next := nodesLeft(after(t, w, loseDeed(node)), 1)
			if isEnough(w.Config, nodesUpTo(len(w.Stores)), next) && isHeld(w.Config, next) {
				w = after(t, w, loseDeed(node))
				lost++
			}
		}
		checkLog(t, w, all...)
		w = mended(t, after(t, w, openDeed(1<<len(w.Stores)-1)))
		checkLog(t, w, all...)
		for reader := range 2 {
			w, _ = impl.HonestRead(w, reader)
			checkTellsAgain(t, w, reader, all...)
			read += len(all)
		}
	}
	if read < 600 || lost < 100 || trimmed < 20 {
		t.Errorf("%d were read, %d are lost, %d were trimmed", read, lost, trimmed)
	}
}

// logWorlds are of all sorts, some with a log and tales; one has all in its log that was sent, and in its tales no other kind.
func logWorlds() []impl.World {
	told := []impl.Event{toldData(1, "a"), {Kind: evHole, At: at(1, 2)}, toldData(3, "c")}
	whole := tellingWorld(told[:1], told[:1])
	whole.Sent = []impl.Sent{sureSent(1, 1, "a"), sureSent(1, 2, "b")}
	return append(judgedWorlds(), whole, tellingWorld(told, told[2:]), sentWorld(at(1, 1), sureSent(1, 1, "a"), sureSent(1, 2, "b"), openSent(1, 3, "c"), sureSent(2, 1, "")))
}

func TestLogWritesNothing(t *testing.T) {
	for _, w := range logWorlds() {
		laid := layDown(w)
		before := laid.look()
		look := func(name string, answer []impl.Sent, want []impl.Sent) {
			t.Helper()
			if !slices.Equal(answer, want) {
				t.Fatalf("%s of %s: %v", name, whole(w), answer)
			}
			if shareMemory(memoryOf(answer), memoryOf(laid.wholes...)) {
				t.Fatalf("%s answers what it was given: %s", name, whole(w))
			}
			clear(answer[:cap(answer)])
			if !laid.isStill(before) {
				t.Fatalf("%s wrote into what it was given: %s", name, whole(w))
			}
		}
		look("LogOf", impl.LogOf(laid.given), logIs(w))
		for reader := -1; reader <= 2; reader++ {
			look("ToldBy", impl.ToldBy(laid.given, reader), toldByIs(w, reader))
		}
		for _, place := range []int{-1, 0, at(1, 1), at(1, 2), at(2, 1)} {
			impl.LogAt(laid.given, place)
			look("LogAt", nil, nil)
		}
	}
}

// Two answers share nothing, and an answer stays as it was told, whatever is done to the arguments afterwards.
func TestLogSharesNothing(t *testing.T) {
	for _, w := range logWorlds() {
		laid := layDown(w)
		one, two := impl.LogOf(laid.given), impl.LogOf(laid.given)
		first, second := impl.ToldBy(laid.given, 0), impl.ToldBy(laid.given, 0)
		data, ok := impl.LogAt(laid.given, at(1, 1))
		laid.spoil()
		if !areApart(memoryOf(one, two, first, second)) {
			t.Fatalf("two answers share memory: %s", whole(w))
		}
		clear(one[:cap(one)])
		clear(first[:cap(first)])
		want, wantOk := logAtIs(w, at(1, 1))
		if !slices.Equal(two, logIs(w)) || !slices.Equal(second, toldByIs(w, 0)) || data != want || ok != wantOk {
			t.Fatalf("of %s an answer became another: %v, %v, %q", whole(w), two, second, data)
		}
	}
}

// One memory may be what both readers told, and what of it was sent is not another's.
func TestLogOneMemory(t *testing.T) {
	told := []impl.Event{toldData(1, "a"), toldData(2, "b")}
	w := tellingWorld(told, told)
	w.Sent = []impl.Sent{sureSent(1, 1, "a"), sureSent(1, 2, "b")}
	for range 2 {
		log, first, second := impl.LogOf(w), impl.ToldBy(w, 0), impl.ToldBy(w, 1)
		if !slices.Equal(log, w.Sent) || !slices.Equal(first, log) || !slices.Equal(second, log) || !areApart(memoryOf(log, first, second, w.Sent, told)) {
			t.Fatalf("%v, %v, %v", log, first, second)
		}
		clear(log)
		clear(first)
	}
}

// Nothing is kept from call to call: an answer is the same whatever was asked ahead of it, and by many at once.
func TestLogAgain(t *testing.T) {
	worlds := logWorlds()
	ask := func(drawn *rand.Rand) {
		for _, i := range drawn.Perm(len(worlds) * 4) {
			w, reader := worlds[i/4], i%4-1
			place := at(1+drawn.Intn(3), 1+drawn.Intn(4))
			data, ok := impl.LogAt(w, place)
			if want, wantOk := logAtIs(w, place); data != want || ok != wantOk {
				t.Errorf("LogAt of %s, %d: %q, %v", whole(w), place, data, ok)
			}
			if got := impl.ToldBy(w, reader); !slices.Equal(got, toldByIs(w, reader)) {
				t.Errorf("ToldBy of %s, %d: %v", whole(w), reader, got)
			}
			if got := impl.LogOf(w); !slices.Equal(got, logIs(w)) {
				t.Errorf("LogOf of %s: %v", whole(w), got)
			}
		}
	}
	var all sync.WaitGroup
	for seed := range 4 {
		all.Add(1)
		go func() {
			defer all.Done()
			for n := range 5 {
				ask(rand.New(rand.NewSource(int64(seed*5 + n))))
			}
		}()
	}
	all.Wait()
	ask(rand.New(rand.NewSource(20)))
}
