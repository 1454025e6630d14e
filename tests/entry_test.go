package tests

import (
	"bytes"
	"encoding/binary"
	"math"
	"strings"
	"testing"

	"loop.example/g00178/impl"
)

// The document's number, written out here so that a changed constant is seen.
const mostData = 40

func at(epoch int, off int) int {
	return epochStep*epoch + off
}

// notPlaces has numbers that no entry may have as its At.
func notPlaces() []int {
	return []int{
		math.MinInt, -at(1, 1), -epochStep, -1, 0, 1, 60, epochStep - 1, at(0, 1), at(0, 60),
		at(1, 0), at(1, -1), at(1, 61), at(2, 0), at(2, 61), at(30, 0), at(30, 61), at(31, 1), at(31, 60), at(32, 5),
		at(257, 1), 1<<62 + at(1, 1), math.MaxInt,
	}
}

// somePlaces has the first and the last place, and what stands at the ends of epochs between.
func somePlaces() []int {
	var list []int
	for _, epoch := range []int{1, 2, 7, 8, 15, 28, 29, 30} {
		for _, off := range []int{1, 2, 31, 59, 60} {
			list = append(list, at(epoch, off))
		}
	}
	return list
}

// someWaves has each wave there is and what stands beside the limits.
func someWaves() []int {
	list := []int{math.MinInt, math.MinInt + 1, -epochStep, -30, 62, 127, 128, 255, 256, 257, epochStep + 2, 1 << 62, math.MaxInt}
	for wave := -2; wave <= lastEpoch+3; wave++ {
		list = append(list, wave)
	}
	return list
}

// someData has lengths at the limit, and bytes that are no UTF-8.
func someData() []string {
	return []string{
		"", "a", "\x00", "\xff", "\x80", "ab", "\x00\xff", "a\x00b\xffc", "\xed\xa0\x80", "\xf0\x9f\x98", "\u00e4\U0001f600", "line\n",
		strings.Repeat("x", mostData-1), strings.Repeat("x", mostData), strings.Repeat("\x00", mostData), strings.Repeat("\xff", mostData),
		strings.Repeat("\xe4\xb8\x96", mostData)[:mostData],
	}
}

func tooMuchData() []string {
	return []string{
		strings.Repeat("x", mostData+1), strings.Repeat("\x00", mostData+1), strings.Repeat("\xff", mostData+1),
		strings.Repeat("\u00e4", mostData/2+1), strings.Repeat("y", 127), strings.Repeat("y", 128), strings.Repeat("z", 70000),
	}
}

// isEntry is what EntryOk must answer, with the place worked out without the program.
func isEntry(e impl.Entry) bool {
	epoch, off := e.At/epochStep, e.At%epochStep
	if e.At < 0 || epoch < 1 || epoch > lastEpoch || off < 1 || off > lastOff {
		return false
	}
	if e.Wave != 0 && (e.Wave <= epoch || e.Wave > lastEpoch) {
		return false
	}
	if e.Hole {
		return e.Wave != 0 && len(e.Data) == 0
	}
	return len(e.Data) <= mostData
}

// formOf has the bytes of any three numbers and a text, an entry's or not.
func formOf(place int, wave int, hole int, data string) []byte {
	b := binary.AppendUvarint(nil, uint64(place))
	b = binary.AppendUvarint(b, uint64(wave))
	b = binary.AppendUvarint(b, uint64(hole))
	b = binary.AppendUvarint(b, uint64(len(data)))
	return append(b, data...)
}

func entryForm(e impl.Entry) []byte {
	if e.Hole {
		return formOf(e.At, e.Wave, 1, e.Data)
	}
	return formOf(e.At, e.Wave, 0, e.Data)
}

// entryAt is what EntryRead must answer, by the forms of numbers and texts that the tests have of their own.
func entryAt(b []byte, from int) (impl.Entry, int, bool) {
	place, next, ok1 := numAt(b, from)
	if !ok1 {
		return impl.Entry{}, 0, false
	}
	wave, next, ok2 := numAt(b, next)
	if !ok2 {
		return impl.Entry{}, 0, false
	}
	hole, next, ok3 := numAt(b, next)
	if !ok3 || hole != 0 && hole != 1 {
		return impl.Entry{}, 0, false
	}
	data, next, ok4 := textAt(b, next)
	e := impl.Entry{At: place, Wave: wave, Hole: hole == 1, Data: data}
	if !ok4 || !isEntry(e) {
		return impl.Entry{}, 0, false
	}
	return e, next, true
}

// someEntries has entries of each kind that are right.
func someEntries() []impl.Entry {
	var list []impl.Entry
	for _, place := range somePlaces() {
		for _, wave := range []int{0, place/epochStep + 1, 17, lastEpoch} {
			if wave > 0 && wave <= place/epochStep || wave > lastEpoch {
				continue
			}
			if wave > 0 {
				list = append(list, impl.Entry{At: place, Wave: wave, Hole: true})
			}
			for _, data := range someData() {
				list = append(list, impl.Entry{At: place, Wave: wave, Data: data})
			}
		}
	}
	return list
}

// fewEntries has one of each length and kind, for tests that go over every byte.
func fewEntries() []impl.Entry {
	return []impl.Entry{
		{At: at(1, 1)},
		{At: at(1, 2), Data: "hi"},
		{At: at(1, 60), Wave: 2, Data: "\x00\xff"},
		{At: at(7, 31), Wave: 30, Hole: true},
		{At: at(8, 1), Wave: 9, Hole: true},
		{At: at(29, 60), Wave: 30, Data: strings.Repeat("\xff", mostData)},
		{At: at(30, 60), Data: strings.Repeat("\x00", mostData)},
		{At: at(30, 1), Data: "a"},
	}
}

func checkEntryRead(t *testing.T, b []byte, from int) {
	t.Helper()
	want, wantNext, wantOk := entryAt(b, from)
	if e, next, ok := impl.EntryRead(b, from); e != want || next != wantNext || ok != wantOk {
		t.Fatalf("EntryRead(%.80q, %d) = %#v, %d, %v; want %#v, %d, %v", b, from, e, next, ok, want, wantNext, wantOk)
	}
}

// checkReads asks for one entry that must be read.
func checkReads(t *testing.T, b []byte, from int, want impl.Entry, wantNext int) {
	t.Helper()
	if e, next, ok := impl.EntryRead(b, from); e != want || next != wantNext || !ok {
		t.Fatalf("EntryRead(%.80q, %d) = %#v, %d, %v; want %#v, %d", b, from, e, next, ok, want, wantNext)
	}
}

// checkNoEntry asks for the fixed answer of what is no entry's bytes.
func checkNoEntry(t *testing.T, b []byte, from int) {
	t.Helper()
	if e, next, ok := impl.EntryRead(b, from); e != (impl.Entry{}) || next != 0 || ok {
		t.Fatalf("EntryRead(%.80q, %d) = %#v, %d, %v", b, from, e, next, ok)
	}
}

// checkRefused asks for the fixed answers of an entry that is not right, and that its bytes are not read.
func checkRefused(t *testing.T, e impl.Entry) {
	t.Helper()
	if impl.EntryOk(e) {
		t.Fatalf("EntryOk(%#v) is true", e)
	}
	if b, ok := impl.EntryPack(e); len(b) != 0 || ok {
		t.Fatalf("EntryPack(%#v) = %.80q, %v", e, b, ok)
	}
	if e.At >= 0 && e.Wave >= 0 {
		checkNoEntry(t, entryForm(e), 0)
		checkNoEntry(t, append([]byte("ab"), entryForm(e)...), 2)
	}
}

func checkTaken(t *testing.T, e impl.Entry) {
	t.Helper()
	if !impl.EntryOk(e) {
		t.Fatalf("EntryOk(%#v) is false", e)
	}
	b, ok := impl.EntryPack(e)
	if !ok || !bytes.Equal(b, entryForm(e)) {
		t.Fatalf("EntryPack(%#v) = %q, %v; want %q", e, b, ok, entryForm(e))
	}
	checkReads(t, b, 0, e, len(b))
}

func TestEntryLimit(t *testing.T) {
	if impl.MaxData != mostData {
		t.Error("limit", impl.MaxData)
	}
}

func TestEntryKnown(t *testing.T) {
	for _, k := range []struct {
		e    impl.Entry
		form string
	}{
		{impl.Entry{At: 4294967297}, "\x81\x80\x80\x80\x10\x00\x00\x00"},
		{impl.Entry{At: 4294967298, Data: "hi"}, "\x82\x80\x80\x80\x10\x00\x00\x02hi"},
		{impl.Entry{At: 4294967298, Wave: 2, Data: "hi"}, "\x82\x80\x80\x80\x10\x02\x00\x02hi"},
		{impl.Entry{At: 4294967298, Wave: 2, Hole: true}, "\x82\x80\x80\x80\x10\x02\x01\x00"},
		{impl.Entry{At: 8589934652, Wave: 30, Hole: true}, "\xbc\x80\x80\x80\x20\x1e\x01\x00"},
		{impl.Entry{At: 128849018940, Data: "\x00\xff"}, "\xbc\x80\x80\x80\xe0\x03\x00\x00\x02\x00\xff"},
		{impl.Entry{At: 128849018881, Data: strings.Repeat("\xff", 40)}, "\x81\x80\x80\x80\xe0\x03\x00\x00\x28" + strings.Repeat("\xff", 40)},
	} {
		if b, ok := impl.EntryPack(k.e); string(b) != k.form || !ok {
			t.Errorf("EntryPack(%#v) = %q, %v; want %q", k.e, b, ok, k.form)
		}
		checkReads(t, []byte(k.form), 0, k.e, len(k.form))
	}
}

func TestEntryAt(t *testing.T) {
	for _, place := range notPlaces() {
		checkRefused(t, impl.Entry{At: place})
		checkRefused(t, impl.Entry{At: place, Data: "a"})
		for wave := -1; wave <= lastEpoch+1; wave++ {
			checkRefused(t, impl.Entry{At: place, Wave: wave, Data: "a"})
			checkRefused(t, impl.Entry{At: place, Wave: wave, Hole: true})
		}
	}
	for epoch := 1; epoch <= lastEpoch; epoch++ {
		for off := 1; off <= lastOff; off++ {
			checkTaken(t, impl.Entry{At: at(epoch, off), Data: "a"})
		}
	}
}

func TestEntryWave(t *testing.T) {
	for epoch := 1; epoch <= lastEpoch; epoch++ {
		place := at(epoch, 1+epoch)
		checkTaken(t, impl.Entry{At: place, Wave: 0, Data: "a"})
		for _, wave := range []int{math.MinInt, -epochStep, -30, -1, 1, epoch - 1, epoch, lastEpoch + 1, lastEpoch + 2, 256 + epoch, epochStep + epoch + 1, math.MaxInt} {
			if wave == 0 {
				continue
			}
			checkRefused(t, impl.Entry{At: place, Wave: wave, Data: "a"})
			checkRefused(t, impl.Entry{At: place, Wave: wave, Hole: true})
		}
		for wave := epoch + 1; wave <= lastEpoch; wave++ {
			checkTaken(t, impl.Entry{At: place, Wave: wave, Data: "a"})
			checkTaken(t, impl.Entry{At: place, Wave: wave})
			checkTaken(t, impl.Entry{At: place, Wave: wave, Hole: true})
		}
	}
}

func TestEntryHole(t *testing.T) {
	for _, place := range somePlaces() {
		checkRefused(t, impl.Entry{At: place, Hole: true})
		for _, data := range append(someData(), tooMuchData()...) {
			checkRefused(t, impl.Entry{At: place, Hole: true, Data: data})
			if data != "" {
				checkRefused(t, impl.Entry{At: place, Wave: place/epochStep + 1, Hole: true, Data: data})
				checkRefused(t, impl.Entry{At: place, Wave: lastEpoch, Hole: true, Data: data})
			}
		}
		if place/epochStep < lastEpoch {
			checkTaken(t, impl.Entry{At: place, Wave: place/epochStep + 1, Hole: true})
			checkTaken(t, impl.Entry{At: place, Wave: lastEpoch, Hole: true})
		}
	}
}

func TestEntryData(t *testing.T) {
	for _, place := range somePlaces() {
		for _, data := range someData() {
			checkTaken(t, impl.Entry{At: place, Data: data})
		}
		for _, data := range tooMuchData() {
			checkRefused(t, impl.Entry{At: place, Data: data})
			checkRefused(t, impl.Entry{At: place, Wave: lastEpoch, Data: data})
		}
	}
	for _, c := range []string{"x", "\x00", "\xff", "\x80", "\u00e4", "\U0001f600"} {
		for size := 0; size <= 200; size++ {
			e := impl.Entry{At: at(3, 4), Wave: 5, Data: strings.Repeat(c, size)[:size]}
			if size <= 40 {
				checkTaken(t, e)
			} else {
				checkRefused(t, e)
			}
		}
	}
	for c := 0; c < 256*256; c++ {
		checkTaken(t, impl.Entry{At: at(1, 1), Data: string([]byte{byte(c), byte(c >> 8)})})
	}
}

// Each At with each Wave, as a hole and as none, with each length of Data.
func TestEntryOkEvery(t *testing.T) {
	for _, place := range append(notPlaces(), somePlaces()...) {
		for _, wave := range someWaves() {
			for _, hole := range []bool{false, true} {
				for _, size := range []int{0, 1, mostData - 1, mostData, mostData + 1, 128} {
					e := impl.Entry{At: place, Wave: wave, Hole: hole, Data: strings.Repeat("d", size)}
					if isEntry(e) {
						checkTaken(t, e)
					} else {
						checkRefused(t, e)
					}
				}
			}
		}
	}
}

func TestEntryZero(t *testing.T) {
	checkRefused(t, impl.Entry{})
	checkNoEntry(t, make([]byte, 4), 0)
	checkNoEntry(t, make([]byte, 100), 50)
}

func TestEntryAmongOthers(t *testing.T) {
	for _, e := range someEntries() {
		form, ok := impl.EntryPack(e)
		if !ok {
			t.Fatalf("%#v is not packed", e)
		}
		for _, side := range fillings() {
			for _, parts := range [][2][]byte{{side, nil}, {nil, side}, {side, side}, {form, side}, {side, form}} {
				b := bytes.Join([][]byte{parts[0], form, parts[1]}, nil)
				checkReads(t, b, len(parts[0]), e, len(parts[0])+len(form))
			}
		}
	}
	for _, e := range fewEntries() {
		form := entryForm(e)
		for c := 0; c < 256; c++ {
			checkReads(t, append(bytes.Clone(form), byte(c)), 0, e, len(form))
			checkReads(t, append([]byte{byte(c)}, form...), 1, e, len(form)+1)
		}
	}
}

func TestEntriesInARow(t *testing.T) {
	var b []byte
	for _, e := range someEntries() {
		form, _ := impl.EntryPack(e)
		b = append(b, form...)
	}
	from := 0
	for _, want := range someEntries() {
		e, next, ok := impl.EntryRead(b, from)
		if e != want || next <= from || !ok {
			t.Fatalf("at %d: %#v, %d, %v; want %#v", from, e, next, ok, want)
		}
		from = next
	}
	if from != len(b) {
		t.Errorf("%d bytes are left", len(b)-from)
	}
	checkNoEntry(t, b, from)
}

// What stands in the spare room behind the bytes is none of them, though it would end the entry.
func TestEntryEndsFirst(t *testing.T) {
	for _, e := range someEntries() {
		form := entryForm(e)
		for size := 0; size < len(form); size++ {
			checkNoEntry(t, form[:size], 0)
			checkNoEntry(t, bytes.Clone(form[:size]), 0)
			checkNoEntry(t, append([]byte{1, 255}, form...)[:2+size], 2)
		}
	}
}

func TestEntryHoleNumber(t *testing.T) {
	for _, hole := range append(numbersOfAllSizes(), 3, 4, 254, 255, 256, 257, epochStep, epochStep+1) {
		if hole == 0 || hole == 1 {
			continue
		}
		for _, data := range []string{"", "a"} {
			checkNoEntry(t, formOf(at(1, 2), 0, hole, data), 0)
			checkNoEntry(t, formOf(at(1, 2), 2, hole, data), 0)
			checkNoEntry(t, append([]byte{5}, formOf(at(1, 2), 2, hole, data)...), 1)
		}
	}
	checkReads(t, formOf(at(1, 2), 2, 0, ""), 0, impl.Entry{At: at(1, 2), Wave: 2}, 8)
	checkReads(t, formOf(at(1, 2), 2, 1, ""), 0, impl.Entry{At: at(1, 2), Wave: 2, Hole: true}, 8)
}

// Numbers of all sizes in each place of an entry's bytes: most of them are no entry.
func TestEntryNumbers(t *testing.T) {
	for _, x := range numbersOfAllSizes() {
		checkEntryRead(t, formOf(x, 0, 0, "a"), 0)
		checkEntryRead(t, formOf(x, 30, 1, ""), 0)
		checkEntryRead(t, formOf(at(1, 1), x, 0, "a"), 0)
		checkEntryRead(t, formOf(at(29, 1), x, 1, ""), 0)
		checkEntryRead(t, formOf(at(1, 1), 2, x, ""), 0)
		for _, body := range []string{"", "a", strings.Repeat("a", mostData), strings.Repeat("a", 200)} {
			head := bytes.TrimSuffix(formOf(at(1, 1), 0, 0, ""), []byte{0})
			b := append(binary.AppendUvarint(head, uint64(x)), body...)
			checkEntryRead(t, b, 0)
			if x > mostData || x > len(body) {
				checkNoEntry(t, b, 0)
			}
		}
	}
}

// partsOf has the forms of an entry's three numbers and of the length of its Data.
func partsOf(e impl.Entry) [4][]byte {
	hole := 0
	if e.Hole {
		hole = 1
	}
	var parts [4][]byte
	for i, x := range [4]int{e.At, e.Wave, hole, len(e.Data)} {
		parts[i] = binary.AppendUvarint(nil, uint64(x))
	}
	return parts
}

func TestEntryNotShortest(t *testing.T) {
	for _, e := range fewEntries() {
		for i := range partsOf(e) {
			parts := partsOf(e)
			for len(parts[i]) < 12 {
				parts[i][len(parts[i])-1] += 128
				parts[i] = append(parts[i], 0)
				b := append(bytes.Join(parts[:], nil), e.Data...)
				checkNoEntry(t, b, 0)
				checkNoEntry(t, append([]byte("ab"), b...), 2)
				checkNoEntry(t, append(b, 0, 0, 0, 0), 0)
			}
		}
	}
}

func TestEntryNoPlaceOfBytes(t *testing.T) {
	list := [][]byte{nil, {}, {0}, make([]byte, 60)}
	for _, e := range fewEntries() {
		list = append(list, entryForm(e), append(entryForm(e), entryForm(e)...))
	}
	for _, b := range list {
		for _, from := range placesOfNone(len(b)) {
			if from < 0 || from >= len(b) {
				checkNoEntry(t, b, from)
			}
		}
		// With an entry ahead of the bytes and in the room behind them, neither of which counts.
		whole := bytes.Join([][]byte{entryForm(fewEntries()[1]), b, entryForm(fewEntries()[1])}, nil)
		given := whole[10 : 10+len(b)]
		for _, from := range []int{-10, -1, len(b), len(b) + 10} {
			checkNoEntry(t, given, from)
		}
	}
}

// An entry's bytes with one of them changed, put in or left out, read at each place.
func TestEntryNear(t *testing.T) {
	for _, e := range fewEntries() {
		form := entryForm(e)
		for i := 0; i <= len(form); i++ {
			if i < len(form) {
				checkEntryRead(t, append(bytes.Clone(form[:i]), form[i+1:]...), 0)
			}
			for c := 0; c < 256; c++ {
				checkEntryRead(t, bytes.Join([][]byte{form[:i], {byte(c)}, form[i:]}, nil), 0)
				if i < len(form) {
					checkEntryRead(t, bytes.Join([][]byte{form[:i], {byte(c)}, form[i+1:]}, nil), 0)
				}
			}
		}
		row := bytes.Join([][]byte{form, entryForm(fewEntries()[1]), form}, nil)
		for from := -1; from <= len(row)+1; from++ {
			checkEntryRead(t, row, from)
		}
	}
}

// Whatever is read is packed again as the very bytes that it was read from.
func TestEntryReadPacks(t *testing.T) {
	some := []byte{0, 1, 2, 29, 30, 31, 40, 41, 127, 128, 255}
	tail := bytes.Repeat([]byte{7}, 45)
	read := 0
	for _, place := range []int{at(1, 1), at(15, 60), at(29, 2), at(30, 60), at(31, 1), at(1, 61)} {
		for n := 0; n < len(some)*len(some)*len(some)*len(some); n++ {
			b := binary.AppendUvarint(nil, uint64(place))
			for i, left := 0, n; i < 4; i, left = i+1, left/len(some) {
				b = append(b, some[left%len(some)])
			}
			b = append(b, tail...)
			checkEntryRead(t, b, 0)
			e, next, ok := impl.EntryRead(b, 0)
			if !ok {
				continue
			}
			read++
			if again, ok := impl.EntryPack(e); !ok || !bytes.Equal(again, b[:next]) {
				t.Fatalf("%v is read as %#v and packed as %v", b, e, again)
			}
		}
	}
	if read == 0 {
		t.Error("nothing is read")
	}
}

func TestBetterWave(t *testing.T) {
	for _, aWave := range someWaves() {
		for _, bWave := range someWaves() {
			for kinds := 0; kinds < 4; kinds++ {
				a := impl.Entry{At: at(1, 2), Wave: aWave, Hole: kinds%2 == 1, Data: "first"}
				b := impl.Entry{At: at(1, 2), Wave: bWave, Hole: kinds/2 == 1, Data: "second"}
				want := a
				if bWave > aWave {
					want = b
				}
				if got := impl.Better(a, b); got != want {
					t.Fatalf("Better(%#v, %#v) = %#v", a, b, got)
				}
			}
		}
	}
}

func TestBetterKnown(t *testing.T) {
	fresh := impl.Entry{At: at(1, 2), Data: "hi"}
	other := impl.Entry{At: at(1, 2), Data: "longer than that"}
	mended := impl.Entry{At: at(1, 2), Wave: 2, Data: "hi"}
	hole := impl.Entry{At: at(1, 2), Wave: 2, Hole: true}
	later := impl.Entry{At: at(1, 2), Wave: 3, Hole: true}
	far := impl.Entry{At: at(29, 60), Data: "far"}
	for _, k := range []struct{ a, b, want impl.Entry }{
		{fresh, other, fresh}, {other, fresh, other}, {fresh, fresh, fresh},
		{fresh, mended, mended}, {mended, fresh, mended},
		{fresh, hole, hole}, {hole, fresh, hole},
		{hole, mended, hole}, {mended, hole, mended},
		{hole, later, later}, {later, hole, later}, {mended, later, later}, {later, mended, later},
		{fresh, far, fresh}, {far, fresh, far}, {far, mended, mended}, {mended, far, mended},
		{impl.Entry{}, fresh, impl.Entry{}}, {fresh, impl.Entry{}, fresh}, {impl.Entry{}, hole, hole},
		{impl.Entry{Wave: -1}, fresh, fresh}, {impl.Entry{}, impl.Entry{Wave: math.MaxInt, Hole: true, Data: "x"}, impl.Entry{Wave: math.MaxInt, Hole: true, Data: "x"}},
		{impl.Entry{Wave: math.MinInt}, impl.Entry{Wave: math.MaxInt}, impl.Entry{Wave: math.MaxInt}},
	} {
		if got := impl.Better(k.a, k.b); got != k.want {
			t.Errorf("Better(%#v, %#v) = %#v, want %#v", k.a, k.b, got, k.want)
		}
	}
}

func TestEntryWritesNothing(t *testing.T) {
	list := [][]byte{nil, {0}, {128}, make([]byte, 20), bytes.Repeat([]byte{255}, 20), formOf(at(1, 1), 1, 0, ""), formOf(at(1, 1), 0, 2, "a")}
	for _, e := range fewEntries() {
		form := entryForm(e)
		list = append(list, form, form[:len(form)-1], append(bytes.Clone(form), 1, 2, 3))
	}
	for _, b := range list {
		given, whole := bytesWithRoom(b)
		before := bytes.Clone(whole)
		for _, from := range append(placesOfNone(len(b)), 0, 1, 2) {
			impl.EntryRead(given, from)
			if !bytes.Equal(whole, before) {
				t.Fatalf("asked at %d: %v became %v", from, before, whole)
			}
		}
	}
}

func TestEntrySharesNothing(t *testing.T) {
	for _, e := range someEntries() {
		kept := e
		kept.Data = strings.Clone(e.Data)
		one, _ := impl.EntryPack(e)
		two, _ := impl.EntryPack(e)
		want := bytes.Clone(two)
		spoil(one)
		// The answer that stands is asked ahead of a new call, which could set it right again.
		if e != kept || !bytes.Equal(two, want) {
			t.Fatalf("an answer of EntryPack(%#v) shares memory", kept)
		}
		if three, _ := impl.EntryPack(e); !bytes.Equal(three, want) {
			t.Fatalf("EntryPack(%#v) keeps what it answered", kept)
		}
		got, _, _ := impl.EntryRead(two, 0)
		again, _, _ := impl.EntryRead(two, 0)
		better := impl.Better(got, again)
		spoil(two)
		if got != kept || again != kept || better != kept {
			t.Fatalf("%#v shares memory with the bytes it was read from", kept)
		}
	}
	a, b := impl.Entry{At: at(1, 1), Data: "a"}, impl.Entry{At: at(1, 1), Wave: 2, Data: "b"}
	for _, pair := range [][2]impl.Entry{{a, b}, {b, a}} {
		got := impl.Better(pair[0], pair[1])
		got.Wave, got.Data, got.Hole = 9, "z", true
		if pair != [2]impl.Entry{a, b} && pair != [2]impl.Entry{b, a} {
			t.Errorf("%#v was written", pair)
		}
	}
}

// Nothing is kept from call to call: an answer is the same whatever was asked ahead of it.
func TestEntryAgain(t *testing.T) {
	e := impl.Entry{At: at(2, 5), Wave: 7, Data: "z"}
	form := entryForm(e)
	for range 3 {
		checkNoEntry(t, form[:len(form)-1], 0)
		checkReads(t, form, 0, e, len(form))
		checkRefused(t, impl.Entry{At: at(2, 5), Wave: 2})
		checkTaken(t, e)
		if impl.Better(impl.Entry{}, e) != e || impl.Better(e, impl.Entry{}) != e {
			t.Error("better")
		}
	}
}
