package tests

import (
	"fmt"
	"regexp"
	"slices"
	"strings"
	"testing"

	"loop.example/wharfsheet/impl"
)

func wantWords(t *testing.T, line string, want ...string) {
	t.Helper()
	cut := impl.SheetWords(line)
	if cut.Bad || !slices.Equal(cut.Words, want) {
		t.Errorf("SheetWords(%q) is %q, bad %v; want %q", line, cut.Words, cut.Bad, want)
	}
	wantSameAgain(t, line)
}

func wantBad(t *testing.T, line string) {
	t.Helper()
	cut := impl.SheetWords(line)
	if !cut.Bad || len(cut.Words) != 0 {
		t.Errorf("SheetWords(%q) is %q, bad %v; want bad and no words", line, cut.Words, cut.Bad)
	}
}

// wantSameAgain holds a line against promise 1, with one space and with more between the words.
func wantSameAgain(t *testing.T, line string) {
	t.Helper()
	cut := impl.SheetWords(line)
	if cut.Bad {
		return
	}
	var written []string
	for _, word := range cut.Words {
		written = append(written, impl.SheetWord(word))
	}
	for _, text := range []string{
		strings.Join(written, " "),
		"  " + strings.Join(written, "   ") + " ",
		strings.Join(written, " ") + "#\t\"",
	} {
		again := impl.SheetWords(text)
		if again.Bad || !slices.Equal(again.Words, cut.Words) {
			t.Errorf("the words %q of %q, written as %q, are cut to %q, bad %v", cut.Words, line, text, again.Words, again.Bad)
		}
	}
}

func barePlain(b int) bool {
	return b >= 33 && b <= 126 && b != '"' && b != '#' && b != '\\'
}

func quotePlain(b int) bool {
	return b >= 32 && b <= 126 && b != '"' && b != '\\'
}

func TestLimitsAreTheDocuments(t *testing.T) {
	got := []int{impl.SheetMaxText, impl.SheetMaxLines, impl.SheetMaxWord, impl.SheetMaxWords, impl.SheetMaxName, impl.SheetMaxBlocks, impl.SheetMaxMany, impl.SheetMaxNumber}
	want := []int{20000, 400, 200, 8, 20, 60, 10, 1000000}
	if !slices.Equal(got, want) {
		t.Errorf("limits are %v, want %v", got, want)
	}
}

func TestWordsOrdinary(t *testing.T) {
	wantWords(t, "")
	wantWords(t, " ")
	wantWords(t, "     ")
	wantWords(t, "a", "a")
	wantWords(t, "service web", "service", "web")
	wantWords(t, "  want   3  ", "want", "3")
	wantWords(t, "  like ssd 5   # soon", "like", "ssd", "5")
	wantWords(t, "like x -5", "like", "x", "-5")
	wantWords(t, `  where "zone=east & ssd"`, "where", "zone=east & ssd")
	wantWords(t, `"end"`, "end")
	wantWords(t, `"a" "b"`, "a", "b")
	wantWords(t, `a "b c" d`, "a", "b c", "d")
	wantWords(t, `"  a  "`, "  a  ")
}

func TestWordsEmptyWord(t *testing.T) {
	wantWords(t, `""`, "")
	wantWords(t, `  ""  `, "")
	wantWords(t, `"" ""`, "", "")
	wantWords(t, `where ""`, "where", "")
	wantWords(t, `""#`, "")
	wantBad(t, `""""`)
	wantBad(t, `""a`)
	wantBad(t, `a""`)
}

func TestWordsBehindAWord(t *testing.T) {
	wantBad(t, `a"b"`)
	wantBad(t, `"a"b`)
	wantBad(t, `"a""b"`)
	wantBad(t, `"a"\41`)
	wantBad(t, `a\41`)
	wantBad(t, `a" b`)
	wantWords(t, `"a" b`, "a", "b")
	wantWords(t, `"a"# b`, "a")
}

func TestWordsComments(t *testing.T) {
	wantWords(t, "#")
	wantWords(t, "# a")
	wantWords(t, "   # a")
	wantWords(t, "##")
	wantWords(t, "a#", "a")
	wantWords(t, "a#b c", "a")
	wantWords(t, "a # b", "a")
	wantWords(t, "a b#c", "a", "b")
	wantWords(t, `"a b"#c`, "a b")
	wantWords(t, `"a b" #c`, "a b")
	wantWords(t, `"#"`, "#")
	wantWords(t, `"a # b" c`, "a # b", "c")
	wantWords(t, `#"`)
	wantWords(t, `a #"b`, "a")
	wantWords(t, `a#\`, "a")
	wantWords(t, "# "+strings.Repeat("w", 500))
	wantWords(t, "a # 1 2 3 4 5 6 7 8 9 10", "a")
	wantBad(t, "\t# a")
	wantBad(t, `"a # b`)
	wantBad(t, `\# a`)
}

func TestWordsEscapes(t *testing.T) {
	wantWords(t, `"\41"`, "A")
	wantWords(t, `"\22\5c"`, `"\`)
	wantWords(t, `"\00\ff\0a"`, "\x00\xff\n")
	wantWords(t, `"a\20b"`, "a b")
	wantWords(t, `"\5c41"`, `\41`)
	wantWords(t, `"\411"`, "A1")
	for _, line := range []string{`"`, `"a`, `"\`, `"\"`, `"\4`, `"\4"`, `"\41`, `"\\"`, `"\n"`, `"\""`, `"\4g"`, `"\g4"`, `"\4A"`, `"\A4"`, `"\FF"`, `"\ 4"`, `"\4 "`, `"\x41"`, `"\-1"`, `\41`, `"\41 b`} {
		wantBad(t, line)
	}
}

func TestWordsEveryByteBare(t *testing.T) {
	for b := range 256 {
		one := string([]byte{byte(b)})
		switch {
		case barePlain(b):
			wantWords(t, one, one)
			wantWords(t, "a"+one+"b", "a"+one+"b")
			wantWords(t, `a `+one, "a", one)
			wantBad(t, `"a"`+one)
		case b == ' ':
			wantWords(t, one)
			wantWords(t, "a"+one+"b", "a", "b")
			wantWords(t, `"a"`+one, "a")
		case b == '#':
			wantWords(t, one)
			wantWords(t, "a"+one+"b", "a")
			wantWords(t, `"a"`+one, "a")
		default:
			wantBad(t, one)
			wantBad(t, "a"+one+"b")
			wantBad(t, "a "+one)
			wantBad(t, one+" a")
			wantBad(t, `"a"`+one)
		}
		wantWords(t, "a#"+one, "a")
		wantWords(t, "# "+one+" b")
	}
}

func TestWordsEveryByteInQuotes(t *testing.T) {
	for b := range 256 {
		one := string([]byte{byte(b)})
		if quotePlain(b) {
			wantWords(t, `"`+one+`"`, one)
			wantWords(t, `"a`+one+`b"`, "a"+one+"b")
		} else {
			wantBad(t, `"a`+one+`b"`)
		}
		wantWords(t, fmt.Sprintf(`"\%02x"`, b), one)
		wantWords(t, fmt.Sprintf(`"a\%02xb" c`, b), "a"+one+"b", "c")
	}
}

func TestWordsEveryDigitOfAnEscape(t *testing.T) {
	for b := range 256 {
		one := string([]byte{byte(b)})
		place := strings.Index("0123456789abcdef", one)
		if place < 0 {
			wantBad(t, `"\`+one+`0"`)
			wantBad(t, `"\0`+one+`"`)
			continue
		}
		wantWords(t, `"\`+one+`0"`, string([]byte{byte(place * 16)}))
		wantWords(t, `"\0`+one+`"`, string([]byte{byte(place)}))
	}
}

func TestWordsLongWord(t *testing.T) {
	most := strings.Repeat("w", 200)
	wantWords(t, most, most)
	wantWords(t, most+"#w", most)
	wantWords(t, "a "+most, "a", most)
	wantWords(t, `"`+most+`"`, most)
	wantWords(t, `"`+strings.Repeat(`\77`, 200)+`"`, most)
	wantWords(t, `"`+strings.Repeat(`\00`, 200)+`"`, strings.Repeat("\x00", 200))
	wantBad(t, most+"w")
	wantBad(t, "a "+most+"w b")
	wantBad(t, most+"w # a")
	wantBad(t, `"`+most+`w"`)
	wantBad(t, `"`+most+`\77"`)
	wantBad(t, `"`+strings.Repeat(`\77`, 201)+`"`)
	wantBad(t, strings.Repeat("w", 20000))
}

func TestWordsManyWords(t *testing.T) {
	eight := []string{"1", "2", "3", "4", "5", "6", "7", "8"}
	line := strings.Join(eight, " ")
	wantWords(t, line, eight...)
	wantWords(t, "  "+line+"  ", eight...)
	wantWords(t, line+"#9", eight...)
	wantWords(t, line+" # 9", eight...)
	wantWords(t, strings.Repeat(`"" `, 8), make([]string, 8)...)
	wantBad(t, line+" 9")
	wantBad(t, line+" 9 # 10")
	wantBad(t, line+` ""`)
	wantBad(t, strings.Repeat(`"" `, 9))
	wantBad(t, line+" \t")
	longest := slices.Repeat([]string{strings.Repeat("\xff", 200)}, 8)
	wantWords(t, strings.Repeat(`"`+strings.Repeat(`\ff`, 200)+`" `, 8), longest...)
}

// The document's form of a word and of a line, as expressions.
const (
	wordForm = `(?:[!$-\[\]-~]+|"(?:[ !#-\[\]-~]|\\[0-9a-f][0-9a-f])*")`
	lineForm = `(?s)^ *((?:` + wordForm + `(?: +` + wordForm + `)*)?) *(?:#.*)?$`
)

// readWord is what a word of wordForm stands for.
func readWord(word string) string {
	if word[0] != '"' {
		return word
	}
	return regexp.MustCompile(`\\..`).ReplaceAllStringFunc(word[1:len(word)-1], func(escape string) string {
		var b byte
		fmt.Sscanf(escape[1:], "%02x", &b)
		return string([]byte{b})
	})
}

func TestWordsEveryShortLine(t *testing.T) {
	whole := regexp.MustCompile(lineForm)
	word := regexp.MustCompile(wordForm)
	var walk func(line string, more int)
	walk = func(line string, more int) {
		if parts := whole.FindStringSubmatch(line); parts == nil {
			wantBad(t, line)
		} else {
			var want []string
			for _, w := range word.FindAllString(parts[1], -1) {
				want = append(want, readWord(w))
			}
			wantWords(t, line, want...)
		}
		if more == 0 || t.Failed() {
			return
		}
		for _, next := range []string{"a", " ", `"`, "#", `\`, "4", "\t"} {
			walk(line+next, more-1)
		}
	}
	walk("", 6)
}

func TestWordOrdinary(t *testing.T) {
	for word, want := range map[string]string{
		"a":            "a",
		"-1":           "-1",
		"a=b|c":        "a=b|c",
		"":             `""`,
		" ":            `" "`,
		"a b":          `"a b"`,
		"a#b":          `"a#b"`,
		"#":            `"#"`,
		`"`:            `"\22"`,
		`\`:            `"\5c"`,
		`\41`:          `"\5c41"`,
		"a\tb":         `"a\09b"`,
		"\x00\x1f\x7f": `"\00\1f\7f"`,
		"\x80\xab\xff": `"\80\ab\ff"`,
		"é":            `"\c3\a9"`,
		"a\n b":        `"a\0a b"`,
	} {
		if got := impl.SheetWord(word); got != want {
			t.Errorf("SheetWord(%q) is %s, want %s", word, got, want)
		}
	}
}

func TestWordEveryByte(t *testing.T) {
	for b := range 256 {
		one := string([]byte{byte(b)})
		want := fmt.Sprintf(`"\%02x"`, b)
		if barePlain(b) {
			want = one
		} else if quotePlain(b) {
			want = `"` + one + `"`
		}
		if got := impl.SheetWord(one); got != want {
			t.Errorf("SheetWord(%q) is %s, want %s", one, got, want)
		}
		inside := fmt.Sprintf(`" \%02x"`, b)
		if quotePlain(b) {
			inside = `" ` + one + `"`
		}
		if got := impl.SheetWord(" " + one); got != inside {
			t.Errorf("SheetWord(%q) is %s, want %s", " "+one, got, inside)
		}
	}
}

// A word that no line can hold is written all the same: the document names no other answer.
func TestWordLong(t *testing.T) {
	bare := strings.Repeat("w", 201)
	if got := impl.SheetWord(bare); got != bare {
		t.Errorf("a bare word of 201 bytes is written as %q", got)
	}
	spaces := strings.Repeat(" ", 201)
	if got := impl.SheetWord(spaces); got != `"`+spaces+`"` {
		t.Errorf("201 spaces are written as %q", got)
	}
}

func TestWordIsCutAgain(t *testing.T) {
	for a := range 256 {
		for b := range 256 {
			word := string([]byte{byte(a), byte(b)})
			wantWords(t, impl.SheetWord(word), word)
			if t.Failed() {
				return
			}
		}
	}
}

func TestWordsAnswersAreNew(t *testing.T) {
	line := `a "b c" d`
	first := impl.SheetWords(line)
	spare := first.Words[:cap(first.Words)]
	for i := range spare {
		spare[i] = "other"
	}
	wantWords(t, line, "a", "b c", "d")
}
