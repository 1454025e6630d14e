package tests

import (
	"bytes"
	"encoding/binary"
	"math"
	"strings"
	"testing"

	"loop.example/g00178/impl"
)

// The greatest number of bytes that a number form has.
const longestForm = 9

// numbersOfAllSizes has the ends of each form's length, the powers of two and what stands beside them.
func numbersOfAllSizes() []int {
	list := []int{0, 1, 2, 127, 128, 129, 300, 16383, 16384, 16385, math.MaxInt - 1, math.MaxInt}
	for bit := 1; bit < 63; bit++ {
		list = append(list, 1<<bit-1, 1<<bit, 1<<bit+1, 1<<bit+1<<(bit/2))
	}
	return list
}

// placesOfNone has what is no place of size bytes.
func placesOfNone(size int) []int {
	return []int{
		math.MinInt, math.MinInt + 1, -1 << 32, -size - 1, -size, -2, -1,
		size, size + 1, size + 8, size + 1<<32, 1 << 62, math.MaxInt - size, math.MaxInt - 1, math.MaxInt,
	}
}

// numAt is what GetNum must answer, worked out by the library's own form of numbers.
func numAt(b []byte, at int) (int, int, bool) {
	if at < 0 || at >= len(b) {
		return 0, 0, false
	}
	x, size := binary.Uvarint(b[at:])
	if size < 1 || size > longestForm || !bytes.HasPrefix(b[at:], binary.AppendUvarint(nil, x)) {
		return 0, 0, false
	}
	return int(x), at + size, true
}

// textAt is what GetText must answer.
func textAt(b []byte, at int) (string, int, bool) {
	size, from, ok := numAt(b, at)
	if !ok || size > len(b[from:]) {
		return "", 0, false
	}
	return string(b[from:][:size]), from + size, true
}

func checkGetNum(t *testing.T, b []byte, at int) {
	t.Helper()
	want, wantNext, wantOk := numAt(b, at)
	if x, next, ok := impl.GetNum(b, at); x != want || next != wantNext || ok != wantOk {
		t.Fatalf("GetNum(%v, %d) = %d, %d, %v; want %d, %d, %v", b, at, x, next, ok, want, wantNext, wantOk)
	}
}

func checkGetText(t *testing.T, b []byte, at int) {
	t.Helper()
	want, wantNext, wantOk := textAt(b, at)
	if s, next, ok := impl.GetText(b, at); s != want || next != wantNext || ok != wantOk {
		t.Fatalf("GetText(%.60q, %d) = %.60q, %d, %v; want %.60q, %d, %v", b, at, s, next, ok, want, wantNext, wantOk)
	}
}

// checkNothing asks for both fixed answers of what is no form.
func checkNothing(t *testing.T, b []byte, at int) {
	t.Helper()
	if x, next, ok := impl.GetNum(b, at); x != 0 || next != 0 || ok {
		t.Errorf("GetNum(%.60q, %d) = %d, %d, %v", b, at, x, next, ok)
	}
	checkNoText(t, b, at)
}

func checkNoText(t *testing.T, b []byte, at int) {
	t.Helper()
	if s, next, ok := impl.GetText(b, at); s != "" || next != 0 || ok {
		t.Errorf("GetText(%.60q, %d) = %.60q, %d, %v", b, at, s, next, ok)
	}
}

// fillings stand ahead of a form and behind it: among them what looks like a form's other half.
func fillings() [][]byte {
	list := [][]byte{nil, []byte("abc"), {0, 0}, {1, 2, 3}, {128, 128}, {255, 255, 255}, bytes.Repeat([]byte{128}, 12)}
	for c := 0; c < 256; c += 51 {
		list = append(list, []byte{byte(c)})
	}
	return append(list, []byte{1}, []byte{127}, []byte{128}, []byte{254})
}

func TestNumKnown(t *testing.T) {
	for _, k := range []struct {
		x    int
		form []byte
	}{
		{0, []byte{0}},
		{1, []byte{1}},
		{127, []byte{127}},
		{128, []byte{128, 1}},
		{129, []byte{129, 1}},
		{255, []byte{255, 1}},
		{256, []byte{128, 2}},
		{300, []byte{172, 2}},
		{16383, []byte{255, 127}},
		{16384, []byte{128, 128, 1}},
		{2097151, []byte{255, 255, 127}},
		{2097152, []byte{128, 128, 128, 1}},
		{4294967297, []byte{129, 128, 128, 128, 16}},
		{1<<56 - 1, []byte{255, 255, 255, 255, 255, 255, 255, 127}},
		{1 << 56, []byte{128, 128, 128, 128, 128, 128, 128, 128, 1}},
		{math.MaxInt, []byte{255, 255, 255, 255, 255, 255, 255, 255, 127}},
	} {
		if b := impl.PutNum(k.x); !bytes.Equal(b, k.form) {
			t.Errorf("PutNum(%d) = %v, want %v", k.x, b, k.form)
		}
		if x, next, ok := impl.GetNum(k.form, 0); x != k.x || next != len(k.form) || !ok {
			t.Errorf("GetNum(%v, 0) = %d, %d, %v", k.form, x, next, ok)
		}
	}
}

func TestNumBelowZero(t *testing.T) {
	list := []int{-1, -2, -127, -128, -129, -300, -16384, -1 << 32, -1 << 62, math.MinInt + 1, math.MinInt}
	for bit := 0; bit < 63; bit++ {
		list = append(list, -1<<bit, -1<<bit-1)
	}
	for _, x := range list {
		if b := impl.PutNum(x); len(b) != 0 {
			t.Errorf("PutNum(%d) = %v", x, b)
		}
	}
}

func TestNumForms(t *testing.T) {
	list := numbersOfAllSizes()
	for x := 0; x < 70000; x++ {
		list = append(list, x)
	}
	for _, x := range list {
		form := impl.PutNum(x)
		if !bytes.Equal(form, binary.AppendUvarint(nil, uint64(x))) || len(form) > longestForm {
			t.Fatalf("PutNum(%d) = %v", x, form)
		}
		if y, next, ok := impl.GetNum(form, 0); y != x || next != len(form) || !ok {
			t.Fatalf("GetNum(%v, 0) = %d, %d, %v; want %d", form, y, next, ok, x)
		}
	}
}

func TestNumAmongOthers(t *testing.T) {
	for _, x := range numbersOfAllSizes() {
		form := impl.PutNum(x)
		for _, ahead := range fillings() {
			for _, behind := range fillings() {
				b := bytes.Join([][]byte{ahead, form, behind}, nil)
				want := len(ahead) + len(form)
				if y, next, ok := impl.GetNum(b, len(ahead)); y != x || next != want || !ok {
					t.Fatalf("GetNum(%v, %d) = %d, %d, %v; want %d, %d", b, len(ahead), y, next, ok, x, want)
				}
			}
		}
		for c := 0; c < 256; c++ {
			if y, next, ok := impl.GetNum(append(impl.PutNum(x), byte(c)), 0); y != x || next != len(form) || !ok {
				t.Fatalf("%d ahead of byte %d: %d, %d, %v", x, c, y, next, ok)
			}
		}
	}
}

func TestNumsInARow(t *testing.T) {
	var b []byte
	for _, x := range numbersOfAllSizes() {
		b = append(b, impl.PutNum(x)...)
	}
	at := 0
	for _, want := range numbersOfAllSizes() {
		x, next, ok := impl.GetNum(b, at)
		if x != want || next <= at || !ok {
			t.Fatalf("at %d: %d, %d, %v; want %d", at, x, next, ok, want)
		}
		at = next
	}
	if at != len(b) {
		t.Errorf("%d bytes are left", len(b)-at)
	}
	checkNothing(t, b, at)
}

func TestBytesNoPlace(t *testing.T) {
	for _, b := range [][]byte{nil, {}, {0}, {1, 65}, {0, 0, 0}, []byte("\x03abc"), impl.PutNum(math.MaxInt), make([]byte, 300)} {
		for _, at := range placesOfNone(len(b)) {
			if at < 0 || at >= len(b) {
				checkNothing(t, b, at)
			}
		}
	}
}

// What stands in the spare room behind the bytes is none of them, though it would end the form.
func TestNumEndsFirst(t *testing.T) {
	for _, x := range numbersOfAllSizes() {
		form := impl.PutNum(x)
		for size := 0; size < len(form); size++ {
			checkNothing(t, form[:size], 0)
			checkNothing(t, append([]byte("ab"), form[:size]...), 2)
			checkNothing(t, append([]byte("ab"), form...)[:2+size], 2)
		}
	}
	for size := 1; size <= 20; size++ {
		checkNothing(t, bytes.Repeat([]byte{128}, size), 0)
		checkNothing(t, bytes.Repeat([]byte{255}, size), size-1)
	}
}

func TestNumTooLong(t *testing.T) {
	for _, c := range []byte{128, 129, 200, 255} {
		for size := longestForm; size < 40; size++ {
			head := bytes.Repeat([]byte{c}, size)
			for last := 0; last < 128; last++ {
				checkNothing(t, append(head, byte(last)), 0)
				checkNothing(t, append(head, byte(last), 0, 1, 2), 0)
			}
		}
	}
	// Of a long row only what begins in its last nine bytes is a form.
	row := append(bytes.Repeat([]byte{255}, 100000), 1)
	for _, at := range []int{0, 1, 50000, len(row) - 10, len(row) - 9, len(row) - 8, len(row) - 2, len(row) - 1} {
		_, next, ok := impl.GetNum(row, at)
		if want := at >= len(row)-longestForm; ok != want || want && next != len(row) || !want && next != 0 {
			t.Errorf("at %d of the row: %d, %v", at, next, ok)
		}
	}
}

func TestNumNotShortest(t *testing.T) {
	for _, b := range [][]byte{{128, 0}, {129, 0}, {255, 0}, {128, 128, 0}, {128, 129, 0}, {255, 255, 0}, {128, 0, 1}, {128, 0, 0}, {172, 130, 0}} {
		checkNothing(t, b, 0)
		checkNothing(t, append([]byte{7}, b...), 1)
	}
	for _, x := range numbersOfAllSizes() {
		b := impl.PutNum(x)
		for len(b) < 14 {
			b[len(b)-1] += 128
			b = append(b, 0)
			checkNothing(t, b, 0)
			checkNothing(t, append(bytes.Clone(b), 1), 0)
		}
	}
	// A byte 0 alone is the form of 0, whatever stands ahead of it.
	for _, ahead := range fillings() {
		b := append(bytes.Clone(ahead), 0, 0)
		if x, next, ok := impl.GetNum(b, len(ahead)); x != 0 || next != len(ahead)+1 || !ok {
			t.Errorf("0 behind %v: %d, %d, %v", ahead, x, next, ok)
		}
	}
}

// Whatever is read is put again as the very bytes that it was read from.
func TestBytesEvery(t *testing.T) {
	t.Parallel()
	for c := 0; c < 256*256; c++ {
		b := []byte{byte(c), byte(c >> 8)}
		for at := -1; at <= 3; at++ {
			checkGetNum(t, b, at)
			checkGetText(t, b, at)
		}
	}
	some := []byte{0, 1, 2, 127, 128, 255}
	for size, count := 0, 1; size <= 6; size, count = size+1, count*len(some) {
		for n := 0; n < count; n++ {
			b := make([]byte, size)
			for i, left := 0, n; i < size; i, left = i+1, left/len(some) {
				b[i] = some[left%len(some)]
			}
			for at := 0; at < size; at++ {
				checkGetNum(t, b, at)
				checkGetText(t, b, at)
			}
			if x, next, ok := impl.GetNum(b, 0); ok && !bytes.Equal(impl.PutNum(x), b[:next]) {
				t.Fatalf("%v is read as %d and put as %v", b, x, impl.PutNum(x))
			}
			if s, next, ok := impl.GetText(b, 0); ok && !bytes.Equal(impl.PutText(s), b[:next]) {
				t.Fatalf("%v is read as %q and put as %v", b, s, impl.PutText(s))
			}
		}
	}
}

// Forms of eight bytes and more, with each byte of a few kinds.
func TestNumLongForms(t *testing.T) {
	heads := []byte{128, 129, 255}
	lasts := []byte{0, 1, 64, 127}
	for size := 7; size <= 10; size++ {
		for n := 0; n < 81; n++ {
			b := bytes.Repeat([]byte{heads[n%3]}, size)
			b[0], b[1], b[size-1] = heads[n/3%3], heads[n/9%3], heads[n/27]
			for _, last := range lasts {
				checkGetNum(t, append(b, last), 0)
				checkGetNum(t, append(b, last, 255), 0)
				checkGetNum(t, append(b, last, 0), 1)
			}
		}
	}
}

// textsOfAllKinds has texts as bytes: also such as no rune stands for.
func textsOfAllKinds() []string {
	list := []string{
		"", "a", "ab", "\x00", "\xff", "\x80", "\x00\x00\x00", "\xff\xff\xff", "a\x00b", "a\xffb\xff",
		"line\nline\n", "\r\n\t ", "e1.1", "\x02ab",
		"\u00e4\u00f6\u00fc", "\u4e16\u754c", "\U0001f600", "\ufffd", "a\ufffdb", "\ufeff", "\xef\xbf\xbd\xef\xbf",
		"\xc3", "\xc3(", "\xe4\xb8", "\xe4\xb8a", "\xf0\x9f\x98", "a\xf0\x9f\x98", "\xf0\x9f\x98\x80\xf0", // runes that end first
		"\xed\xa0\x80", "\xed\xbf\xbf", "\xc0\x80", "\xc0\xaf", "\xe0\x80\x80", "\xf4\x90\x80\x80", "\xf8\x88\x80\x80\x80", "\xfe\xff",
	}
	for c := 0; c < 256; c++ {
		list = append(list, string([]byte{byte(c)}), string([]byte{byte(c), 'x'}), string([]byte{'x', byte(c)}))
	}
	for _, size := range []int{2, 40, 126, 127, 128, 129, 255, 256, 257, 300, 16383, 16384, 16385, 70000} {
		for _, c := range []string{"x", "\x00", "\xff", "\x80", "\xf0\x9f\x98\x80", "a\xe4\xb8\x96"} {
			list = append(list, strings.Repeat(c, size)[:size])
		}
	}
	return list
}

func TestTextKnown(t *testing.T) {
	for _, k := range []struct{ text, form string }{
		{"", "\x00"},
		{"a", "\x01a"},
		{"ab", "\x02ab"},
		{"\x00", "\x01\x00"},
		{"\xff", "\x01\xff"},
		{"\u00e4", "\x02\xc3\xa4"},
		{"\ufffd", "\x03\xef\xbf\xbd"},
		{"a\xe4\xb8", "\x03a\xe4\xb8"},
		{strings.Repeat("x", 127), "\x7f" + strings.Repeat("x", 127)},
		{strings.Repeat("x", 128), "\x80\x01" + strings.Repeat("x", 128)},
		{strings.Repeat("\xff", 300), "\xac\x02" + strings.Repeat("\xff", 300)},
		{strings.Repeat("\x00", 16384), "\x80\x80\x01" + strings.Repeat("\x00", 16384)},
	} {
		if b := impl.PutText(k.text); string(b) != k.form {
			t.Errorf("PutText(%.60q) = %.60q, want %.60q", k.text, b, k.form)
		}
		if s, next, ok := impl.GetText([]byte(k.form), 0); s != k.text || next != len(k.form) || !ok {
			t.Errorf("GetText(%.60q, 0) = %.60q, %d, %v", k.form, s, next, ok)
		}
	}
}

func TestTextForms(t *testing.T) {
	for _, s := range textsOfAllKinds() {
		form := impl.PutText(s)
		if want := string(binary.AppendUvarint(nil, uint64(len(s)))) + s; string(form) != want {
			t.Fatalf("PutText(%.60q) = %.60q, want %.60q", s, form, want)
		}
		if got, next, ok := impl.GetText(form, 0); got != s || next != len(form) || !ok {
			t.Fatalf("GetText(%.60q, 0) = %.60q, %d, %v", form, got, next, ok)
		}
	}
	for c := 0; c < 256*256; c++ {
		s := string([]byte{byte(c), byte(c >> 8)})
		if form := impl.PutText(s); string(form) != "\x02"+s {
			t.Fatalf("PutText(%q) = %q", s, form)
		}
	}
}

func TestTextAmongOthers(t *testing.T) {
	for _, s := range textsOfAllKinds() {
		form := impl.PutText(s)
		for _, side := range fillings() {
			for _, parts := range [][2][]byte{{side, nil}, {nil, side}, {side, side}, {{'p'}, side}, {side, {'p'}}} {
				b := bytes.Join([][]byte{parts[0], form, parts[1]}, nil)
				want := len(parts[0]) + len(form)
				if got, next, ok := impl.GetText(b, len(parts[0])); got != s || next != want || !ok {
					t.Fatalf("%.60q between %v: %.60q, %d, %v; want %d", s, parts, got, next, ok, want)
				}
			}
		}
	}
}

func TestTextsInARow(t *testing.T) {
	var b []byte
	for _, s := range textsOfAllKinds() {
		b = append(b, impl.PutText(s)...)
	}
	at := 0
	for _, want := range textsOfAllKinds() {
		s, next, ok := impl.GetText(b, at)
		if s != want || next <= at || !ok {
			t.Fatalf("at %d: %.60q, %d, %v; want %.60q", at, s, next, ok, want)
		}
		at = next
	}
	if at != len(b) {
		t.Errorf("%d bytes are left", len(b)-at)
	}
	checkNothing(t, b, at)
}

func TestTextEndsFirst(t *testing.T) {
	for _, s := range textsOfAllKinds() {
		form := impl.PutText(s)
		for _, size := range []int{0, 1, 2, len(form) / 2, len(form) - 2, len(form) - 1} {
			if size < 0 || size >= len(form) {
				continue
			}
			// The rest of the text stands in the spare room, where it does not count.
			checkNoText(t, form[:size], 0)
			checkNoText(t, bytes.Clone(form[:size]), 0)
			checkNoText(t, append([]byte{0, 255}, form...)[:2+size], 2)
		}
	}
}

func TestTextGreatLength(t *testing.T) {
	for _, body := range []string{"", "a", strings.Repeat("a", 127), strings.Repeat("a", 20000)} {
		for _, size := range numbersOfAllSizes() {
			for _, ahead := range []int{0, 1, 5} {
				b := bytes.Join([][]byte{make([]byte, ahead), impl.PutNum(size), []byte(body)}, nil)
				checkGetText(t, b, ahead)
				if size > len(body) {
					checkNoText(t, b, ahead)
				}
			}
		}
		for less := 0; less < 20; less++ {
			checkNoText(t, append(impl.PutNum(math.MaxInt-less), body...), 0)
		}
		checkNoText(t, append(impl.PutNum(len(body)+1), body...), 0)
	}
}

// A length that is told in a longer form than it needs is none, though the text is there.
func TestTextLengthForm(t *testing.T) {
	for _, b := range []string{
		"\x80\x00", "\x80\x00a", "\x81\x00a", "\x82\x00ab", "\x81\x80\x00a", "\x80\x80\x80\x80\x80\x80\x80\x80\x00",
		"\x81\x80\x80\x80\x80\x80\x80\x80\x80\x00a", "\x81\x80\x80\x80\x80\x80\x80\x80\x80\x01a", "\xff\xff\xff\xff\xff\xff\xff\xff\xff\x01",
		"\xff\xff\xff\xff\xff\xff\xff\xff\xff\x7f", "\x80", "\x81", "\xff\xff",
	} {
		checkNothing(t, []byte(b), 0)
		checkNothing(t, []byte("x"+b), 1)
	}
}

// bytesWithRoom lays b between other bytes, with spare room behind it; the whole is answered too.
func bytesWithRoom(b []byte) ([]byte, []byte) {
	whole := bytes.Join([][]byte{[]byte("ahead"), b, []byte("behind it")}, nil)
	return whole[5 : 5+len(b)], whole
}

func TestBytesWriteNothing(t *testing.T) {
	list := [][]byte{nil, {0}, {128}, {128, 0}, {172, 2}, []byte("\x03abcdef"), []byte("\x09abc"), impl.PutNum(math.MaxInt), bytes.Repeat([]byte{255}, 12), impl.PutText(strings.Repeat("\xff", 200))}
	for _, b := range list {
		given, whole := bytesWithRoom(b)
		before := bytes.Clone(whole)
		for _, at := range append(placesOfNone(len(b)), 0, 1, 2) {
			impl.GetNum(given, at)
			impl.GetText(given, at)
			if !bytes.Equal(whole, before) {
				t.Fatalf("asked at %d: %v became %v", at, before, whole)
			}
		}
	}
}

// spoil writes over all that an answer's memory holds, the spare room too.
func spoil(b []byte) {
	b = b[:cap(b)]
	for i := range b {
		b[i] = 'Z'
	}
}

func TestBytesShareNothing(t *testing.T) {
	for _, x := range append(numbersOfAllSizes(), -1) {
		one, two := impl.PutNum(x), impl.PutNum(x)
		want := bytes.Clone(two)
		spoil(one)
		if !bytes.Equal(two, want) || !bytes.Equal(impl.PutNum(x), want) {
			t.Fatalf("two answers of PutNum(%d) share memory", x)
		}
	}
	for _, s := range textsOfAllKinds() {
		kept := strings.Clone(s)
		one, two := impl.PutText(s), impl.PutText(s)
		want := bytes.Clone(two)
		spoil(one)
		if s != kept || !bytes.Equal(two, want) || !bytes.Equal(impl.PutText(s), want) {
			t.Fatalf("an answer of PutText(%.60q) shares memory", kept)
		}
		got, _, _ := impl.GetText(two, 0)
		again, _, _ := impl.GetText(two, 0)
		spoil(two)
		if got != kept || again != kept {
			t.Fatalf("the text %.60q shares memory with the bytes it was read from", kept)
		}
	}
}

// Nothing is kept from call to call: an answer is the same whatever was asked ahead of it.
func TestBytesAgain(t *testing.T) {
	b := []byte("\x80\x00\xac\x02\x01z")
	for range 3 {
		checkNothing(t, b, 0)
		if x, next, ok := impl.GetNum(b, 2); x != 300 || next != 4 || !ok {
			t.Error("number", x, next, ok)
		}
		if s, next, ok := impl.GetText(b, 4); s != "z" || next != 6 || !ok {
			t.Error("text", s, next, ok)
		}
		if string(impl.PutNum(300)) != "\xac\x02" || len(impl.PutNum(-300)) != 0 || string(impl.PutText("z")) != "\x01z" {
			t.Error("put")
		}
	}
}
