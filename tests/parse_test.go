package tests

import (
	"fmt"
	"math/rand"
	"reflect"
	"slices"
	"strings"
	"testing"

	"loop.example/wharfsheet/impl"
)

func line(key string, words ...string) impl.SheetLine {
	return impl.SheetLine{Key: key, Words: words}
}

func block(kind string, name string, lines ...impl.SheetLine) impl.SheetBlock {
	return impl.SheetBlock{Kind: kind, Name: name, Lines: lines}
}

func sheet(blocks ...impl.SheetBlock) impl.Sheet {
	return impl.Sheet{Blocks: blocks}
}

// tell writes a sheet so that two are told alike exactly if they are the same value.
func tell(s impl.Sheet) string {
	var told strings.Builder
	for _, b := range s.Blocks {
		fmt.Fprintf(&told, "%q %q:\n", b.Kind, b.Name)
		for _, l := range b.Lines {
			fmt.Fprintf(&told, "  %q %q\n", l.Key, l.Words)
		}
	}
	return told.String()
}

func wantReads(t *testing.T, text string, blocks ...impl.SheetBlock) {
	t.Helper()
	s, fault := impl.SheetParse(text)
	if fault != (impl.SheetFault{}) || tell(s) != tell(sheet(blocks...)) {
		t.Errorf("SheetParse(%.200q) has the fault %v and is\n%swant\n%s", text, fault, tell(s), tell(sheet(blocks...)))
	}
	if !impl.SheetValid(s) {
		t.Errorf("SheetParse(%.200q) is not valid", text)
	}
}

func wantFault(t *testing.T, text string, line int, code int) {
	t.Helper()
	s, fault := impl.SheetParse(text)
	if fault != (impl.SheetFault{Line: line, Code: code}) || len(s.Blocks) != 0 {
		t.Errorf("SheetParse(%.200q) has the fault %v and %d blocks; want line %d, code %d, and nothing", text, fault, len(s.Blocks), line, code)
	}
	wantFaultToStay(t, text, fault)
}

// wantFaultToStay holds a fault against promise 3: what stands behind its line is taken away, doubled and made another thing.
func wantFaultToStay(t *testing.T, text string, fault impl.SheetFault) {
	t.Helper()
	if fault.Code == 0 || fault.Code == impl.SheetOpen || fault.Code == impl.SheetTooLong {
		return
	}
	lines := strings.Split(text, "\n")
	upTo := strings.Join(lines[:fault.Line], "\n")
	if len(upTo) > impl.SheetMaxText-100 || fault.Line > impl.SheetMaxLines-10 {
		return
	}
	for _, behind := range []string{"", "\n", "\nend", "\nend\n", "\n\"", "\nteam\n", "\nteam t\nend\n", "\nzip zap\n\n\n", "\nroom 1\nroom 1\n", "\n\x00"} {
		if _, again := impl.SheetParse(upTo + behind); again != fault {
			t.Errorf("%.200q has the fault %v; with %q behind its line %v", text, fault, behind, again)
		}
	}
	before := strings.Join(lines[:fault.Line-1], "\n") + "\n"
	if _, again := impl.SheetParse(before); again.Code != 0 && again.Code != impl.SheetOpen {
		t.Errorf("%.200q has its first fault at line %d, but ahead of it is %v", text, fault.Line, again)
	}
}

func TestCodesAreTheDocuments(t *testing.T) {
	got := []int{impl.SheetBadWord, impl.SheetOutside, impl.SheetNoKind, impl.SheetBadName, impl.SheetNoKey, impl.SheetTwice, impl.SheetBadArgs, impl.SheetOpen, impl.SheetAgain, impl.SheetTooMany, impl.SheetTooLong}
	if !slices.Equal(got, []int{1, 2, 3, 4, 5, 6, 7, 8, 9, 10, 11}) {
		t.Errorf("codes are %v", got)
	}
}

func TestParseOrdinary(t *testing.T) {
	wantReads(t, "team core\nend\n", block("team", "core"))
	wantReads(t, "team core\n  room 5\nend\n", block("team", "core", line("room", "5")))
	wantReads(t, "service web\n  want 3\n  like ssd 5   # soon\nend\nteam core\nend\n",
		block("service", "web", line("want", "3"), line("like", "ssd", "5")), block("team", "core"))
	wantReads(t, "service db\n  where \"zone=east & ssd\"\n  follow 1 2 3\nend\n",
		block("service", "db", line("where", "zone=east & ssd"), line("follow", "1", "2", "3")))
}

func TestParsePutsBlocksInOrder(t *testing.T) {
	wantReads(t, "team b\nend\nservice z\nend\nteam a\nend\nberth zz\nend\nservice a\nend\nteam ab\nend\nteam -\nend\nteam 0\nend\n",
		block("berth", "zz"), block("service", "a"), block("service", "z"),
		block("team", "-"), block("team", "0"), block("team", "a"), block("team", "ab"), block("team", "b"))
}

func TestParsePutsLinesInOrder(t *testing.T) {
	wantReads(t, "team a\nroom 1\ncopies 2\nend", block("team", "a", line("copies", "2"), line("room", "1")))
	wantReads(t, "berth a\nmark b\nhold 1\nmark ab\nroom 2\nmark a\nzone y\nend",
		block("berth", "a", line("zone", "y"), line("room", "2"), line("hold", "1"), line("mark", "a"), line("mark", "ab"), line("mark", "b")))
	wantReads(t, "service s\npace 1 1 1\nlike b 1\nlike a 9\nlike a 10\nlike a -1\nlike \"\" 0\nteam t\nlike ab 0\nlike \"\\ff\" 0\nlike \"a \" 0\nend",
		block("service", "s", line("team", "t"),
			line("like", "", "0"), line("like", "a", "-1"), line("like", "a", "10"), line("like", "a", "9"), line("like", "a ", "0"),
			line("like", "ab", "0"), line("like", "b", "1"), line("like", "\xff", "0"), line("pace", "1", "1", "1")))
}

func TestParseEveryKeyBackwards(t *testing.T) {
	word := map[int]string{1: "7", 2: "-7", 3: "seven", 4: "se ven", 5: "yes", 6: "zone"}
	for _, kind := range kinds {
		var lines []impl.SheetLine
		text := "end\n"
		for _, rule := range impl.SheetRules(kind) {
			l := line(rule.Key)
			told := rule.Key
			for _, arg := range rule.Args {
				l.Words = append(l.Words, word[arg])
				told += " " + impl.SheetWord(word[arg])
			}
			lines = append(lines, l)
			text = told + "\n" + text
		}
		wantReads(t, kind+" x\n"+text, block(kind, "x", lines...))
	}
}

func TestParseLinesWithoutWords(t *testing.T) {
	wantReads(t, "")
	wantReads(t, "\n")
	wantReads(t, "\n\n\n")
	wantReads(t, "   ")
	wantReads(t, "  # no more than this\n#\"\n")
	wantReads(t, "\n# a team\n\n  team a # of a\n\n   \n# room\n room 1 #\n\n end#\n#", block("team", "a", line("room", "1")))
	wantFault(t, "\n#\n \nteam", 4, impl.SheetOutside)
	wantFault(t, "team a\n\n#\nroom x", 4, impl.SheetBadArgs)
}

func TestParseLastNewline(t *testing.T) {
	for _, behind := range []string{"", "\n", "\n\n", "\n ", "\n#"} {
		wantReads(t, "team a\nend"+behind, block("team", "a"))
		wantFault(t, "team a\nend\nteam"+behind, 3, impl.SheetOutside)
	}
	wantFault(t, "team a", 2, impl.SheetOpen)
	wantFault(t, "team a\n", 2, impl.SheetOpen)
	wantFault(t, "team a\n\n", 3, impl.SheetOpen)
	wantFault(t, "team a\n ", 3, impl.SheetOpen)
	wantFault(t, "team a\n \n", 3, impl.SheetOpen)
	wantFault(t, "\n\nteam a\nroom 1\n#\n#", 7, impl.SheetOpen)
	wantFault(t, "team a\nend\nteam b\nroom 1", 5, impl.SheetOpen)
}

func TestParseQuotes(t *testing.T) {
	wantReads(t, "\"team\" \"a\"\n\"room\" \"1\"\n\"end\"", block("team", "a", line("room", "1")))
	wantReads(t, "\"\\74eam\" a\n\"\\65nd\"\n", block("team", "a"))
	wantReads(t, "service s\nwhere end\nlike end 1\nlike \"\\0a\" 2\nend",
		block("service", "s", line("where", "end"), line("like", "\n", "2"), line("like", "end", "1")))
	wantFault(t, "team a\n\" end\"\nend", 2, impl.SheetNoKey)
	wantFault(t, "team a\nEND\nend", 2, impl.SheetNoKey)
	wantFault(t, "team a\nend \"\"\nend", 2, impl.SheetNoKey)
	wantFault(t, "team a\nend end\nend", 2, impl.SheetNoKey)
	wantFault(t, "team a\n\"\"\nend", 2, impl.SheetNoKey)
	wantFault(t, "\"\" \"\"", 1, impl.SheetNoKind)
	wantFault(t, "\"\"", 1, impl.SheetOutside)
	wantFault(t, "\"end\"", 1, impl.SheetOutside)
	wantFault(t, "\"team a\"", 1, impl.SheetOutside)
	wantFault(t, "service s\nlike \"a\nb\" 1\nend", 2, impl.SheetBadWord)
}

func TestParseNamesThatAreKeysOrKinds(t *testing.T) {
	wantReads(t, "team end\nend\nteam team\nend\nservice service\nteam team\nend\nberth room\nroom 1\nend",
		block("berth", "room", line("room", "1")), block("service", "service", line("team", "team")), block("team", "end"), block("team", "team"))
}

func TestParseEachFaultOutside(t *testing.T) {
	wantFault(t, "\"", 1, impl.SheetBadWord)
	wantFault(t, "team a\r\nend", 1, impl.SheetBadWord)
	wantFault(t, "team a\nend\n\t\n", 3, impl.SheetBadWord)
	wantFault(t, "team "+strings.Repeat("a", 201), 1, impl.SheetBadWord)
	wantFault(t, "1 2 3 4 5 6 7 8 9", 1, impl.SheetBadWord)
	wantFault(t, "1 2 3 4 5 6 7 8", 1, impl.SheetOutside)
	wantFault(t, "team", 1, impl.SheetOutside)
	wantFault(t, "team a b", 1, impl.SheetOutside)
	wantFault(t, "team a end", 1, impl.SheetOutside)
	wantFault(t, "end", 1, impl.SheetOutside)
	wantFault(t, "team a\nend\nend", 3, impl.SheetOutside)
	wantFault(t, "Team a", 1, impl.SheetNoKind)
	wantFault(t, "teams a", 1, impl.SheetNoKind)
	wantFault(t, "end a", 1, impl.SheetNoKind)
	wantFault(t, "room 1", 1, impl.SheetNoKind)
	wantFault(t, "team A", 1, impl.SheetBadName)
	wantFault(t, "team \"\"", 1, impl.SheetBadName)
	wantFault(t, "team a_b", 1, impl.SheetBadName)
	wantFault(t, "team \"a b\"", 1, impl.SheetBadName)
	wantReads(t, "team "+strings.Repeat("a", 20)+"\nend", block("team", strings.Repeat("a", 20)))
	wantFault(t, "team "+strings.Repeat("a", 21), 1, impl.SheetBadName)
	wantFault(t, "team a\nend\nteam a", 3, impl.SheetAgain)
	wantFault(t, "team a\nend\nteam b\nend\nteam \"a\"\nend", 5, impl.SheetAgain)
	wantReads(t, "team a\nend\nberth a\nend\nservice a\nend", block("berth", "a"), block("service", "a"), block("team", "a"))
}

func TestParseEachFaultInside(t *testing.T) {
	wantFault(t, "team a\n\"\nend", 2, impl.SheetBadWord)
	wantFault(t, "team a\n1 2 3 4 5 6 7 8 9\nend", 2, impl.SheetBadWord)
	wantFault(t, "team a\nend\"", 2, impl.SheetBadWord)
	wantFault(t, "team a\nzip 1\nend", 2, impl.SheetNoKey)
	wantFault(t, "team a\nzone z\nend", 2, impl.SheetNoKey)
	wantFault(t, "team a\nteam b\nend", 2, impl.SheetNoKey)
	wantFault(t, "team a\nRoom 1\nend", 2, impl.SheetNoKey)
	wantFault(t, "team a\nroom\nend", 2, impl.SheetBadArgs)
	wantFault(t, "team a\nroom 1 2\nend", 2, impl.SheetBadArgs)
	wantFault(t, "team a\nroom 01\nend", 2, impl.SheetBadArgs)
	wantFault(t, "team a\nroom 1000001\nend", 2, impl.SheetBadArgs)
	wantReads(t, "team a\nroom 1000000\nend", block("team", "a", line("room", "1000000")))
	wantFault(t, "service a\nteam b\nteam \"\"\nend", 3, impl.SheetBadArgs)
	wantFault(t, "service a\nlike 1\nend", 2, impl.SheetBadArgs)
	wantFault(t, "service a\npace 1 2 3 4 5 6 7\nend", 2, impl.SheetBadArgs)
}

func TestParseLinesSaidTwice(t *testing.T) {
	wantFault(t, "team a\nroom 1\nroom 1\nend", 3, impl.SheetTwice)
	wantFault(t, "team a\nroom 1\nroom 2\nend", 3, impl.SheetTwice)
	wantFault(t, "team a\nroom 1\ncopies 1\nroom 2\nend", 4, impl.SheetTwice)
	wantFault(t, "team a\nroom 1000\n\nroom \"1000\" # again\nend", 4, impl.SheetTwice)
	wantFault(t, "berth a\nmark m\nmark m\nend", 3, impl.SheetTwice)
	wantFault(t, "berth a\nmark m\nmark n\nroom 1\nmark \"m\"\nend", 5, impl.SheetTwice)
	wantFault(t, "service a\nlike x 1\nlike x 2\nlike y 1\nlike x 1\nend", 5, impl.SheetTwice)
	wantReads(t, "service a\nlike x 1\nlike x 2\nlike y 1\nlike 1 1\nend",
		block("service", "a", line("like", "1", "1"), line("like", "x", "1"), line("like", "x", "2"), line("like", "y", "1")))
	wantReads(t, "berth a\nroom 1\nhold 1\nend\nberth b\nroom 1\nend", block("berth", "a", line("room", "1"), line("hold", "1")), block("berth", "b", line("room", "1")))
	wantReads(t, "berth a\nmark m\nend\nberth b\nmark m\nend", block("berth", "a", line("mark", "m")), block("berth", "b", line("mark", "m")))
}

func TestParseFirstFaultOfALine(t *testing.T) {
	wantFault(t, "team a b \"", 1, impl.SheetBadWord)
	wantFault(t, "Team A B", 1, impl.SheetOutside)
	wantFault(t, "Team", 1, impl.SheetOutside)
	wantFault(t, "Team A", 1, impl.SheetNoKind)
	wantFault(t, "team a\nend\nTeam a", 3, impl.SheetNoKind)
	wantFault(t, "team a\nzip\"", 2, impl.SheetBadWord)
	wantFault(t, "team a\nroom 1\nroom 1 \\", 3, impl.SheetBadWord)
	wantFault(t, "team a\nzip x y z", 2, impl.SheetNoKey)
	wantFault(t, "team a\nzip\nzip", 2, impl.SheetNoKey)
	wantFault(t, "team a\nroom 1\nroom x", 3, impl.SheetBadArgs)
	wantFault(t, "team a\nroom 1\nroom", 3, impl.SheetBadArgs)
	wantFault(t, "berth a\nmark m\nmark m m", 3, impl.SheetBadArgs)
}

func TestParseFirstFaultOfLines(t *testing.T) {
	faults := map[string]int{"\"": impl.SheetBadWord, "zip 1": impl.SheetNoKey, "room x": impl.SheetBadArgs, "copies 2": impl.SheetTwice}
	for first, code := range faults {
		for second := range faults {
			wantFault(t, "team a\ncopies 1\n"+first+"\n"+second+"\nend", 3, code)
			wantFault(t, "team a\ncopies 1\n"+first+"\nend\nteam a\n"+second, 3, code)
			wantFault(t, "team a\ncopies 1\n"+first, 3, code)
		}
	}
	outside := map[string]int{"\"": impl.SheetBadWord, "team": impl.SheetOutside, "zip a": impl.SheetNoKind, "team A": impl.SheetBadName, "team a": impl.SheetAgain}
	for first, code := range outside {
		for second := range outside {
			wantFault(t, "team a\nend\n"+first+"\n"+second+"\n", 3, code)
		}
	}
}

func TestParseMostBlocks(t *testing.T) {
	text := ""
	var want []impl.SheetBlock
	for i := range 60 {
		name := fmt.Sprintf("t%02d", i)
		kind := kinds[i%3]
		text += kind + " " + name + "\nend\n"
		want = append(want, block(kind, name))
	}
	slices.SortFunc(want, func(a, b impl.SheetBlock) int { return strings.Compare(a.Kind+" "+a.Name, b.Kind+" "+b.Name) })
	wantReads(t, text, want...)
	wantFault(t, text+"team t60\nend\n", 121, impl.SheetTooMany)
	wantFault(t, text+"\nteam t60", 122, impl.SheetTooMany)
	wantFault(t, text+"team t00", 121, impl.SheetAgain)
	wantFault(t, text+"berth t00", 121, impl.SheetTooMany)
	wantFault(t, text+"team T00", 121, impl.SheetBadName)
	wantFault(t, text+"Team t00", 121, impl.SheetNoKind)
	wantFault(t, text+"team", 121, impl.SheetOutside)
	wantFault(t, text+"team t\"", 121, impl.SheetBadWord)
}

func TestParseMostLinesOfAKey(t *testing.T) {
	marks, likes := "", ""
	var wantMarks, wantLikes []impl.SheetLine
	for i := range 10 {
		marks += fmt.Sprintf("mark m%d\n", i)
		likes += fmt.Sprintf("like l %d\n", i)
		wantMarks = append(wantMarks, line("mark", fmt.Sprintf("m%d", i)))
		wantLikes = append(wantLikes, line("like", "l", fmt.Sprint(i)))
	}
	wantReads(t, "berth b\n"+marks+"end\nservice s\n"+likes+"end\nberth a\n"+marks+"end\n",
		block("berth", "a", wantMarks...), block("berth", "b", wantMarks...), block("service", "s", wantLikes...))
	wantReads(t, "berth b\n"+marks+"room 1\nend", block("berth", "b", append([]impl.SheetLine{line("room", "1")}, wantMarks...)...))
	wantFault(t, "berth b\n"+marks+"mark x\nend", 12, impl.SheetTooMany)
	wantFault(t, "berth b\n"+marks+"room 1\nmark x\nend", 13, impl.SheetTooMany)
	wantFault(t, "berth b\n"+marks+"mark m0\nend", 12, impl.SheetTwice)
	wantFault(t, "berth b\n"+marks+"mark m9\nend", 12, impl.SheetTwice)
	wantFault(t, "berth b\n"+marks+"mark X\nend", 12, impl.SheetBadArgs)
	wantFault(t, "service s\n"+likes+"like m 0\nend", 12, impl.SheetTooMany)
	wantFault(t, "service s\n"+likes+"like l 0\nend", 12, impl.SheetTwice)
	wantFault(t, "service s\n"+likes+"like l\nend", 12, impl.SheetBadArgs)
}

func TestParseMostBytes(t *testing.T) {
	text := "team a\nend\n"
	pad := func(size int) string { return "#" + strings.Repeat("x", size-len(text)-1) }
	wantReads(t, text+pad(20000), block("team", "a"))
	wantReads(t, text+pad(19999)+"\n", block("team", "a"))
	wantFault(t, text+pad(20001), 0, impl.SheetTooLong)
	wantFault(t, text+pad(20000)+"\n", 0, impl.SheetTooLong)
	wantFault(t, "\""+strings.Repeat("x", 20000), 0, impl.SheetTooLong)
	wantFault(t, "\""+strings.Repeat("x", 19999), 1, impl.SheetBadWord)
	wantFault(t, "team a\n#"+strings.Repeat("x", 19993), 0, impl.SheetTooLong)
	wantFault(t, "team a\n#"+strings.Repeat("x", 19992), 3, impl.SheetOpen)
	wantFault(t, strings.Repeat("\x00", 3000000), 0, impl.SheetTooLong)
}

func TestParseMostLines(t *testing.T) {
	wantReads(t, strings.Repeat("\n", 400))
	wantReads(t, strings.Repeat("\n", 399)+"#")
	wantReads(t, strings.Repeat("\n", 398)+"team a\nend", block("team", "a"))
	wantReads(t, strings.Repeat("\n", 398)+"team a\nend\n", block("team", "a"))
	wantFault(t, strings.Repeat("\n", 401), 0, impl.SheetTooLong)
	wantFault(t, strings.Repeat("\n", 400)+"#", 0, impl.SheetTooLong)
	wantFault(t, strings.Repeat("\n", 400)+" ", 0, impl.SheetTooLong)
	wantFault(t, "\""+strings.Repeat("\n", 400)+"#", 0, impl.SheetTooLong)
	wantFault(t, "\""+strings.Repeat("\n", 400), 1, impl.SheetBadWord)
	wantFault(t, strings.Repeat("\n", 399)+"team a", 401, impl.SheetOpen)
	wantFault(t, strings.Repeat("\n", 399)+"team a\n", 401, impl.SheetOpen)
	wantFault(t, strings.Repeat("\n", 399)+"team", 400, impl.SheetOutside)
	wantFault(t, strings.Repeat("\n", 3000000), 0, impl.SheetTooLong)
}

// modelRead is chapter 3 once more: what is said of each block, and the first fault.
func modelRead(text string) (map[string][]string, impl.SheetFault) {
	pieces := strings.Split(text, "\n")
	if pieces[len(pieces)-1] == "" {
		pieces = pieces[:len(pieces)-1]
	}
	said := map[string][]string{}
	open, kind := "", ""
	for i, piece := range pieces {
		cut := impl.SheetWords(piece)
		if !cut.Bad && len(cut.Words) == 0 {
			continue
		}
		if open != "" && slices.Equal(cut.Words, []string{"end"}) {
			open = ""
			continue
		}
		code := 0
		if open == "" {
			code = modelOutside(said, cut)
		} else {
			code = modelInside(said[open], kind, cut)
		}
		if code != 0 {
			return nil, impl.SheetFault{Line: i + 1, Code: code}
		}
		if open == "" {
			open, kind = strings.Join(cut.Words, " "), cut.Words[0]
			said[open] = []string{}
			continue
		}
		said[open] = append(said[open], fmt.Sprintf("%q", cut.Words))
	}
	if open != "" {
		return nil, impl.SheetFault{Line: len(pieces) + 1, Code: impl.SheetOpen}
	}
	return said, impl.SheetFault{}
}

func modelOutside(said map[string][]string, cut impl.SheetCut) int {
	switch {
	case cut.Bad:
		return impl.SheetBadWord
	case len(cut.Words) != 2:
		return impl.SheetOutside
	case !slices.Contains(kinds, cut.Words[0]):
		return impl.SheetNoKind
	case !impl.SheetFits("berth", "mark", cut.Words[1:]):
		return impl.SheetBadName
	case said[strings.Join(cut.Words, " ")] != nil:
		return impl.SheetAgain
	case len(said) == 60:
		return impl.SheetTooMany
	}
	return 0
}

func modelInside(said []string, kind string, cut impl.SheetCut) int {
	if cut.Bad {
		return impl.SheetBadWord
	}
	rules := impl.SheetRules(kind)
	place := slices.IndexFunc(rules, func(rule impl.SheetRule) bool { return rule.Key == cut.Words[0] })
	of := 0
	for _, other := range said {
		if strings.HasPrefix(other, fmt.Sprintf("[%q ", cut.Words[0])) {
			of++
		}
	}
	switch {
	case place < 0:
		return impl.SheetNoKey
	case !impl.SheetFits(kind, cut.Words[0], cut.Words[1:]):
		return impl.SheetBadArgs
	case of > 0 && !rules[place].Many, slices.Contains(said, fmt.Sprintf("%q", cut.Words)):
		return impl.SheetTwice
	case of == 10:
		return impl.SheetTooMany
	}
	return 0
}

// randomText is made so that it has often no fault, or its first one late.
func randomText(random *rand.Rand) string {
	pick := func(from ...string) string { return from[random.Intn(len(from))] }
	text := ""
	for range random.Intn(6) {
		text += pick("team", "berth", "service") + " " + pick("a", "b", "c", "d", "e", "f") + pick("", " ", " # x") + "\n"
		for range random.Intn(5) {
			text += pick("  ", "", " ") + pick("room 1", "room 2", "copies 3", "mark a", "mark b", "mark c", "zone e", "hold 4", "want 5", "image 6", "like a 1", "like b 1", "like b -1", "where \"a b\"", "\"\"", "", "", "#") + "\n"
		}
		text += pick("end\n", "end\n", "end\n", "end\n", "\"end\"\n", "")
	}
	if random.Intn(4) == 0 {
		place := random.Intn(len(text) + 1)
		text = text[:place] + pick("\"", "x", "A", " ", "\n", "#", "1", "\x00") + text[place:]
	}
	return strings.TrimSuffix(text, pick("\n", ""))
}

func TestParseRandomTexts(t *testing.T) {
	random := rand.New(rand.NewSource(3))
	codes := map[int]int{}
	for range 20000 {
		text := randomText(random)
		said, fault := modelRead(text)
		codes[fault.Code]++
		if fault.Code != 0 {
			wantFault(t, text, fault.Line, fault.Code)
		} else {
			wantSaid(t, text, said)
		}
		if t.Failed() {
			return
		}
	}
	for _, code := range []int{0, 1, 2, 3, 4, 5, 6, 7, 8, 9} {
		if codes[code] < 10 {
			t.Errorf("only %d of the random texts have the code %d", codes[code], code)
		}
	}
}

func wantSaid(t *testing.T, text string, said map[string][]string) {
	t.Helper()
	s, fault := impl.SheetParse(text)
	got := map[string][]string{}
	for _, b := range s.Blocks {
		lines := []string{}
		for _, l := range b.Lines {
			lines = append(lines, fmt.Sprintf("%q", append([]string{l.Key}, l.Words...)))
		}
		slices.Sort(lines)
		got[b.Kind+" "+b.Name] = lines
	}
	for _, lines := range said {
		slices.Sort(lines)
	}
	if fault != (impl.SheetFault{}) || len(got) != len(s.Blocks) || !reflect.DeepEqual(got, said) || !impl.SheetValid(s) {
		t.Errorf("SheetParse(%q) has the fault %v and says %q; want %q", text, fault, got, said)
	}
}

func TestParseAnswersAreNew(t *testing.T) {
	text := "berth b\nmark c\nmark b\nmark a\nend\nservice s\nlike x 1\nlike y 2\nfollow 1 2 3\nneeds 4 5\nwant 1\nend\nteam t\nend\nberth a\nend\n"
	before, _ := impl.SheetParse(text)
	told := tell(before)
	s, _ := impl.SheetParse(text)
	wantOwnLists(t, s)
	if after, _ := impl.SheetParse(text); tell(after) != told || tell(before) != told {
		t.Errorf("writing into an answer changed another one")
	}
}
