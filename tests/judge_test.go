package tests

import (
	"math/rand"
	"slices"
	"testing"

	"loop.example/g00178/impl"
)

// verdicts is what the six judges say, by the first letters of their names; JudgeAll is a.
func verdicts(w impl.World) string {
	said := ""
	for _, judge := range []struct {
		letter string
		isSo   func(impl.World) bool
	}{{"o", impl.JudgeOrder}, {"t", impl.JudgeTrue}, {"k", impl.JudgeKept}, {"w", impl.JudgeWhole}, {"s", impl.JudgeSame}, {"a", impl.JudgeAll}} {
		if judge.isSo(w) {
			said += judge.letter
		}
	}
	return said
}

func checkVerdicts(t *testing.T, w impl.World, want string) {
	t.Helper()
	if got := verdicts(w); got != want {
		t.Fatalf("of %s: %q, not %q", whole(w), got, want)
	}
}

// judgedWorld was read by both readers up to e1.3, and has a third entry that is not sure; what was told is given.
func judgedWorld(first []impl.Event, second []impl.Event) impl.World {
	return changedWorld(twoWorld(), func(w *impl.World) {
		w.Sent = []impl.Sent{{At: at(1, 1), Data: "a", Sure: true}, {At: at(1, 2), Data: "b", Sure: true}, {At: at(1, 3), Data: "c"}}
		w.Readers = []impl.Reader{{Epoch: 1, Off: 3, Out: first}, {Epoch: 1, Off: 3, Out: second}}
	})
}

func toldData(off int, data string) impl.Event {
	return impl.Event{Kind: evData, At: at(1, off), Data: data}
}

func TestJudgeKnown(t *testing.T) {
	a, b, c := toldData(1, "a"), toldData(2, "b"), toldData(3, "c")
	hole, loss := impl.Event{Kind: evHole, At: at(1, 2)}, impl.Event{Kind: evLoss, At: at(1, 2)}
	right := []impl.Event{a, b}
	era, trim := impl.Event{Kind: evEra, At: 2}, impl.Event{Kind: evTrim, At: at(1, 1)}
	checkVerdicts(t, emptyWorld(conf(1, 0)), "otkwsa")
	for _, one := range []struct {
		told []impl.Event
		want string
	}{
		{right, "otkwsa"}, {[]impl.Event{era, a, trim, era, b, trim}, "otkwsa"},
		{[]impl.Event{b, a}, "tkws"}, {[]impl.Event{a, a, b}, "tkws"}, {[]impl.Event{a, b, hole}, "tkws"}, {[]impl.Event{a, b, loss}, "tks"},
		{[]impl.Event{a, toldData(2, "x")}, "ow"}, {[]impl.Event{a, b, toldData(4, "x")}, "okws"},
		{[]impl.Event{a}, "otw"}, {[]impl.Event{b}, "otw"}, {nil, "otw"}, {[]impl.Event{a, hole}, "otw"}, {[]impl.Event{a, loss}, "ot"},
		{[]impl.Event{a, b, c}, "otkwsa"}, {[]impl.Event{a, b, {Kind: evHole, At: at(1, 3)}}, "otkwsa"}, {[]impl.Event{a, b, {Kind: evLoss, At: at(1, 3)}}, "otks"},
	} {
		checkVerdicts(t, judgedWorld(one.told, right), one.want)
		checkVerdicts(t, judgedWorld(right, one.told), one.want)
	}
}

// What neither of both told is the same, and yet not kept; no Data is not the same as nothing told.
func TestJudgeBoth(t *testing.T) {
	a, none := toldData(1, "a"), toldData(2, "")
	checkVerdicts(t, judgedWorld([]impl.Event{a}, []impl.Event{a}), "otws")
	w := judgedWorld([]impl.Event{a, none}, []impl.Event{a})
	w.Sent[1] = impl.Sent{At: at(1, 2)}
	checkVerdicts(t, w, "otkw")
	w.Readers[1].Out = w.Readers[0].Out
	checkVerdicts(t, w, "otkwsa")
}

// A torn world is asked only for order and truth; what is given up need not be told, nor what no reader passed.
func TestJudgeTornAndTrimmed(t *testing.T) {
	a, b := toldData(1, "a"), toldData(2, "b")
	lost := judgedWorld([]impl.Event{{Kind: evLoss, At: at(1, 1)}}, []impl.Event{a, b})
	checkVerdicts(t, lost, "ot")
	lost.Torn = true
	checkVerdicts(t, lost, "otkwsa")
	lost.Readers[0].Out = []impl.Event{b, toldData(1, "x")}
	checkVerdicts(t, lost, "kws")
	w := judgedWorld([]impl.Event{b}, []impl.Event{a, b})
	w.Register.Trim = at(1, 1)
	checkVerdicts(t, w, "otkwsa")
	w = judgedWorld([]impl.Event{a}, []impl.Event{a, b})
	w.Register.Trim = at(1, 1)
	checkVerdicts(t, w, "otw")
	w.Register.Trim, w.Readers[0].Off = 0, 2
	checkVerdicts(t, w, "otkwsa")
	// One that tells a place has to be behind it, to be asked whether the other one told the same.
	w = judgedWorld([]impl.Event{a, b, toldData(3, "c")}, []impl.Event{a, b})
	w.Readers[0].Off = 4
	checkVerdicts(t, w, "otkwsa")
	w.Readers[0].Off, w.Readers[1].Off = 3, 4
	checkVerdicts(t, w, "otkwsa")
	w.Readers[0].Off = 4
	checkVerdicts(t, w, "otkw")
	w.Readers[1] = impl.Reader{Epoch: 2, Off: 1, Out: w.Readers[1].Out}
	checkVerdicts(t, w, "otkw")
}

func TestJudgeNotWorld(t *testing.T) {
	for _, w := range badWorlds() {
		checkVerdicts(t, w, "")
		w.Torn = true
		if !isWorld(w) {
			checkVerdicts(t, w, "")
		}
	}
}

// Whatever is done to a new world, all is well.
func TestJudgeDrawnRows(t *testing.T) {
	for seed := range 120 {
		drawn := rand.New(rand.NewSource(int64(seed)))
		w := emptyWorld(deedConfigs()[seed%6])
		for range 250 {
			d := nextStep(drawn, w)
			if drawn.Intn(4) == 0 {
				d = drawnDeed(drawn, w)
			}
			w, _ = impl.WorldDo(w, d)
			checkVerdicts(t, w, "otkwsa")
		}
	}
}

func TestJudgeWritesNothing(t *testing.T) {
	for _, w := range slices.Concat(deedWorlds(), []impl.World{judgedWorld([]impl.Event{toldData(1, "a")}, []impl.Event{toldData(2, "b")})}) {
		laid := layDown(w)
		before, said := laid.look(), verdicts(laid.given)
		if !laid.isStill(before) || said != verdicts(w) {
			t.Fatalf("a judge wrote into %s", whole(w))
		}
	}
}
