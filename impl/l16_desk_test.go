package impl

import (
	"strings"
	"testing"
)

// The words are written out here, so that one that is changed in the program is seen.
func allWords() []string {
	return strings.Fields("open add store sync crash lose fill mend seal plan fix close trim read drop prune")
}

// mappedKind asks the map as the program makes it, by a line that is read.
func mappedKind(t *testing.T, word string) (int, bool) {
	t.Helper()
	if _, ok := DeedParse("mend"); !ok {
		t.Fatal("mend is no line")
	}
	kind, isThere := kindByWord[word]
	return kind, isThere
}

func TestKindOfWords(t *testing.T) {
	for i, word := range allWords() {
		kind, isThere := mappedKind(t, word)
		if want := i + 1; kindOf(word) != want || kind != want || !isThere {
			t.Errorf("%s: %d by the function, %d, %v by the map; want %d", word, kindOf(word), kind, isThere, want)
		}
	}
	if len(allWords()) != DoPrune || len(kindByWord) != DoPrune {
		t.Errorf("%d words, %d in the map", len(allWords()), len(kindByWord))
	}
}

// nearWords has what is one byte away from a word, or two words in one.
func nearWords(word string) []string {
	list := []string{strings.ToUpper(word), strings.ToUpper(word[:1]) + word[1:], word + word, word + " " + word, word + " 0"}
	for i := 0; i <= len(word); i++ {
		for b := range 256 {
			other := string([]byte{byte(b)})
			list = append(list, word[:i]+other+word[i:])
			if i < len(word) {
				list = append(list, word[:i]+other+word[i+1:])
			}
		}
		if i < len(word) {
			list = append(list, word[:i]+word[i+1:], word[:i], word[i+1:])
		}
	}
	return list
}

func TestKindOfNoWords(t *testing.T) {
	isWord := map[string]int{}
	for i, word := range allWords() {
		isWord[word] = i + 1
	}
	list := []string{"", " ", "  ", "\n", "\x00", "\xff", "#", "0", "1", "16", "judge", "out", "what", "ok", "none", "\u00f6pen", strings.Repeat("open", 1<<16), strings.Join(allWords(), "")}
	for _, word := range allWords() {
		list = append(list, nearWords(word)...)
	}
	for _, other := range list {
		kind, isThere := mappedKind(t, other)
		if want := isWord[other]; kindOf(other) != want || kind != want || isThere != (want != 0) {
			t.Fatalf("%.60q: %d by the function, %d, %v by the map; want %d", other, kindOf(other), kind, isThere, want)
		}
	}
}

// The map is made once: lines that are read afterwards, good and bad, leave it as it is.
func TestKindByWordStays(t *testing.T) {
	mappedKind(t, "mend")
	made := kindByWord
	for _, word := range append(allWords(), "", "judge", "what", "opens") {
		DeedParse(word)
		DeedParse(word + " 1 2 3")
	}
	Session(Config{Domains: []int{0}, Copies: 1}, "open 1\nwhat\nadd 0 x\njudge")
	if len(made) != DoPrune || len(kindByWord) != DoPrune {
		t.Fatalf("%v became %v", made, kindByWord)
	}
	made["what"] = 17
	_, isSame := kindByWord["what"]
	_, isLine := DeedParse("what")
	delete(made, "what")
	if !isSame || isLine {
		t.Errorf("another map: %v; a line by the map alone: %v", !isSame, isLine)
	}
}

// No answer hangs on the map: with all of it wrong, and with nothing in it, lines are read as before.
func TestKindHangsOnNoMap(t *testing.T) {
	mappedKind(t, "mend")
	made := kindByWord
	defer func() { kindByWord = made }()
	for _, other := range []map[string]int{nil, {}, {"open": 4, "mend": 1, "plan": -1, "close": 99, "what": 8, "": 8}} {
		kindByWord = other
		for i, word := range allWords() {
			d := Deed{Kind: i + 1}
			if line, ok := DeedLine(d); ok {
				if got, isRead := DeedParse(line); !isRead || got != d {
					t.Errorf("%s: %v, %v, by the map %v", word, got, isRead, other)
				}
			}
		}
		for _, line := range []string{"", "what", "what 1", "opens 1"} {
			if got, ok := DeedParse(line); ok || got != (Deed{}) {
				t.Errorf("%q: %v, by the map %v", line, got, other)
			}
		}
	}
}
