package tests

import (
	"fmt"
	"math/rand"
	"slices"
	"strings"
	"testing"

	"loop.example/wharfsheet/impl"
)

// wantPrints holds a sheet against its text and against promise 2.
func wantPrints(t *testing.T, want string, blocks ...impl.SheetBlock) {
	t.Helper()
	s := sheet(blocks...)
	if text := impl.SheetPrint(s); text != want {
		t.Errorf("SheetPrint is %.500q, want %.500q", text, want)
	}
	wantReads(t, want, blocks...)
}

// wantPrintedAgain holds a text without a fault against the other half of promise 2.
func wantPrintedAgain(t *testing.T, text string) {
	t.Helper()
	s, fault := impl.SheetParse(text)
	printed := impl.SheetPrint(s)
	if fault.Code != 0 || printed == "" {
		return
	}
	again, fault := impl.SheetParse(printed)
	if fault != (impl.SheetFault{}) || tell(again) != tell(s) {
		t.Errorf("%q is printed as %q, which has the fault %v and is\n%swant\n%s", text, printed, fault, tell(again), tell(s))
	}
	if twice := impl.SheetPrint(again); twice != printed {
		t.Errorf("%q is printed as %q, and this as %q", text, printed, twice)
	}
}

func TestPrintOrdinary(t *testing.T) {
	wantPrints(t, "")
	wantPrints(t, "team core\nend\n", block("team", "core"))
	wantPrints(t, "team a\n  copies 1\n  room 2\nend\nteam b\nend\n", block("team", "a", line("copies", "1"), line("room", "2")), block("team", "b"))
	wantPrints(t, "berth b\n  zone e\n  mark m\n  mark n\nend\nservice s\n  needs 1 2\n  like ssd -5\n  pace 3 2 1\nend\nteam t\n  room 7\nend\n",
		block("berth", "b", line("zone", "e"), line("mark", "m"), line("mark", "n")),
		block("service", "s", line("needs", "1", "2"), line("like", "ssd", "-5"), line("pace", "3", "2", "1")),
		block("team", "t", line("room", "7")))
}

func TestPrintKeepsDefaults(t *testing.T) {
	wantPrints(t, "team core\n  copies 100\nend\n", block("team", "core", line("copies", "100")))
	wantPrints(t, "service s\n  where \"\"\nend\n", block("service", "s", line("where", "")))
}

func TestPrintQuotes(t *testing.T) {
	for word, written := range map[string]string{
		"":                     `""`,
		"end":                  "end",
		"zone=east & ssd":      `"zone=east & ssd"`,
		" ":                    `" "`,
		"#":                    `"#"`,
		`"`:                    `"\22"`,
		`\`:                    `"\5c"`,
		"a\nend\nteam b":       `"a\0aend\0ateam b"`,
		"\x00\xff":             `"\00\ff"`,
		strings.Repeat("w", 8): "wwwwwwww",
	} {
		wantPrints(t, "service s\n  where "+written+"\n  like "+written+" 0\nend\n", block("service", "s", line("where", word), line("like", word, "0")))
	}
	for b := range 256 {
		word := string([]byte{byte(b)})
		wantPrints(t, "service s\n  where "+impl.SheetWord(word)+"\nend\n", block("service", "s", line("where", word)))
	}
}

// longSheet is a sheet, and its text, of 19971 bytes and these more.
func longSheet(more int) (string, []impl.SheetBlock) {
	var blocks []impl.SheetBlock
	text := ""
	for i := range 32 {
		name := fmt.Sprintf("s%02d", i)
		escaped, plain := 200, 0
		if i == 31 {
			escaped, plain = 169, more
		}
		blocks = append(blocks, block("service", name, line("where", strings.Repeat("\xff", escaped)+strings.Repeat("w", plain))))
		text += "service " + name + "\n  where \"" + strings.Repeat("\\ff", escaped) + strings.Repeat("w", plain) + "\"\nend\n"
	}
	return text, blocks
}

func TestPrintMostBytes(t *testing.T) {
	text, blocks := longSheet(29)
	if len(text) != 20000 {
		t.Fatalf("the test's text has %d bytes", len(text))
	}
	wantPrints(t, text, blocks...)
	text, blocks = longSheet(30)
	wantNoText(t, blocks)
	wantFault(t, text, 0, impl.SheetTooLong)
	// Without the spaces ahead of its lines it can be read, but not be printed.
	wantReads(t, strings.ReplaceAll(text, "\n  ", "\n"), blocks...)
}

func wantNoText(t *testing.T, blocks []impl.SheetBlock) {
	t.Helper()
	wantValid(t, true, blocks...)
	if printed := impl.SheetPrint(sheet(blocks...)); printed != "" {
		t.Errorf("a sheet with too long a text is printed, with %d bytes and %d lines", len(printed), strings.Count(printed, "\n"))
	}
}

func TestPrintMostLines(t *testing.T) {
	var blocks []impl.SheetBlock
	text := ""
	for i := range 60 {
		name := fmt.Sprintf("b%02d", i)
		var lines []impl.SheetLine
		text += "berth " + name + "\n"
		for j := range 10 {
			if i >= 32 {
				lines = append(lines, line("mark", fmt.Sprint(j)))
				text += fmt.Sprintf("  mark %d\n", j)
			}
		}
		text += "end\n"
		blocks = append(blocks, block("berth", name, lines...))
	}
	if strings.Count(text, "\n") != 400 {
		t.Fatalf("the test's text has %d lines", strings.Count(text, "\n"))
	}
	wantPrints(t, text, blocks...)
	blocks[0].Lines = []impl.SheetLine{line("zone", "e")}
	wantNoText(t, blocks)
}

func TestPrintOfRandomTexts(t *testing.T) {
	random := rand.New(rand.NewSource(4))
	for range 20000 {
		wantPrintedAgain(t, randomText(random))
		if t.Failed() {
			return
		}
	}
}

func randomWord(random *rand.Rand, arg int) string {
	pick := func(from ...string) string { return from[random.Intn(len(from))] }
	switch arg {
	case impl.SheetNumber:
		return pick("0", "1", "10", "9", "1000000", fmt.Sprint(random.Intn(1000001)))
	case impl.SheetSigned:
		return pick("0", "1", "-1", "10", "-1000000", fmt.Sprint(random.Intn(2000001)-1000000))
	case impl.SheetName:
		return pick("a", "b", "ab", "-", "0", "end", strings.Repeat("z", 20))
	case impl.SheetText:
		word := make([]byte, []int{0, 1, 2, 6, 6, 20, 200}[random.Intn(7)])
		random.Read(word)
		return pick("end", "a b", "#", string(word), string(word))
	case impl.SheetYes:
		return pick("yes", "no")
	}
	return pick("none", "berth", "zone")
}

// randomLines are lines of a kind, in their order.
func randomLines(random *rand.Rand, kind string) []impl.SheetLine {
	var lines []impl.SheetLine
	for _, rule := range impl.SheetRules(kind) {
		most := 2
		if rule.Many {
			most = 5
		}
		var ofKey []impl.SheetLine
		for range random.Intn(most) {
			l := line(rule.Key)
			for _, arg := range rule.Args {
				l.Words = append(l.Words, randomWord(random, arg))
			}
			ofKey = append(ofKey, l)
		}
		slices.SortFunc(ofKey, func(a, b impl.SheetLine) int { return slices.Compare(a.Words, b.Words) })
		ofKey = slices.CompactFunc(ofKey, func(a, b impl.SheetLine) bool { return slices.Equal(a.Words, b.Words) })
		lines = append(lines, ofKey...)
	}
	return lines
}

func randomSheet(random *rand.Rand) impl.Sheet {
	var blocks []impl.SheetBlock
	for _, kind := range []string{"berth", "service", "team"} {
		for _, name := range []string{"-", "a", "ab", "b", "end"} {
			if random.Intn(3) == 0 {
				blocks = append(blocks, block(kind, name, randomLines(random, kind)...))
			}
		}
	}
	return sheet(blocks...)
}

// shuffledText says a sheet in any order, with lines without words between.
func shuffledText(random *rand.Rand, s impl.Sheet) string {
	var blocks []string
	for _, b := range s.Blocks {
		var lines []string
		for _, l := range b.Lines {
			told := l.Key
			for _, word := range l.Words {
				told += " " + impl.SheetWord(word)
			}
			lines = append(lines, told+[]string{"", " ", "#", "\n"}[random.Intn(4)])
		}
		random.Shuffle(len(lines), func(i, j int) { lines[i], lines[j] = lines[j], lines[i] })
		blocks = append(blocks, strings.Join(append(append([]string{b.Kind + " " + b.Name}, lines...), "end"), "\n"))
	}
	random.Shuffle(len(blocks), func(i, j int) { blocks[i], blocks[j] = blocks[j], blocks[i] })
	return strings.Join(blocks, "\n")
}

func TestPrintOfRandomSheets(t *testing.T) {
	random := rand.New(rand.NewSource(5))
	for range 2000 {
		s := randomSheet(random)
		wantValid(t, true, s.Blocks...)
		if text := impl.SheetPrint(s); text != "" {
			wantPrints(t, text, s.Blocks...)
			wantReads(t, shuffledText(random, s), s.Blocks...)
		} else if len(s.Blocks) != 0 {
			t.Errorf("a small sheet has no text:\n%s", tell(s))
		}
		if t.Failed() {
			return
		}
	}
}

// The spare room behind the lists of an argument is the caller's.
func TestPrintLeavesItsArgument(t *testing.T) {
	words := []string{"a", "1", "spare"}
	lines := []impl.SheetLine{{Key: "like", Words: words[:2]}, line("spare")}
	blocks := []impl.SheetBlock{{Kind: "service", Name: "s", Lines: lines[:1]}, block("spare", "spare")}
	s := impl.Sheet{Blocks: blocks[:1]}
	before := tell(sheet(blocks...)) + fmt.Sprint(words, lines)
	if !impl.SheetValid(s) || impl.SheetPrint(s) != "service s\n  like a 1\nend\n" {
		t.Errorf("SheetPrint is %q", impl.SheetPrint(s))
	}
	if after := tell(sheet(blocks...)) + fmt.Sprint(words, lines); after != before {
		t.Errorf("the argument was %s and is %s", before, after)
	}
}
