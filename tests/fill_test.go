package tests

import (
	"fmt"
	"math/rand"
	"slices"
	"testing"

	"loop.example/wharfsheet/impl"
)

var names = []string{"-", "a", "ab", "b", "end", "s"}

// wrongSheets are sheets that are not valid, in each way that chapter 3 names; many of them would be, had they been trimmed, put in order, or laid under another one.
func wrongSheets() map[string]impl.Sheet {
	var blocks []impl.SheetBlock
	var marks []impl.SheetLine
	for i := range 61 {
		blocks = append(blocks, block("team", fmt.Sprintf("t%02d", i)))
	}
	for i := range 11 {
		marks = append(marks, line("mark", fmt.Sprintf("m%02d", i)))
	}
	return map[string]impl.Sheet{
		"too many blocks":            sheet(blocks...),
		"kinds out of order":         sheet(block("team", "a"), block("berth", "b")),
		"names out of order":         sheet(block("team", "b"), block("team", "a")),
		"a block twice":              sheet(block("team", "a"), block("team", "a")),
		"a kind without rules":       sheet(block("teams", "a")),
		"an empty kind":              sheet(block("", "a")),
		"no name":                    sheet(block("team", "")),
		"a wrong name":               sheet(block("berth", "a"), block("team", "A")),
		"a name that is too long":    sheet(block("team", "aaaaaaaaaaaaaaaaaaaaa")),
		"no such key":                sheet(block("team", "a", line("zone", "z"))),
		"an empty key":               sheet(block("team", "a", line("", "1"))),
		"no words":                   sheet(block("team", "a", line("room"))),
		"too many words":             sheet(block("team", "a", line("room", "1000", "1000"))),
		"words of another type":      sheet(block("team", "a", line("room", "x"))),
		"a number that is too great": sheet(block("team", "a", line("room", "1000001"))),
		"a wrong line of many":       sheet(block("berth", "b", line("mark", "M"))),
		"a wrong line in a late one": sheet(block("berth", "b"), block("service", "s"), block("team", "a", line("copies", "100"), line("room", ""))),
		"keys out of order":          sheet(block("team", "a", line("room", "1000"), line("copies", "100"))),
		"words out of order":         sheet(block("berth", "b", line("mark", "b"), line("mark", "a"))),
		"a default twice":            sheet(block("team", "a", line("room", "1000"), line("room", "1000"))),
		"a key twice":                sheet(block("team", "a", line("room", "1"), line("room", "2"))),
		"a line of many twice":       sheet(block("berth", "b", line("mark", "a"), line("mark", "a"))),
		"too many lines of many":     sheet(block("berth", "b", marks...)),
	}
}

func wantSheet(t *testing.T, what string, got impl.Sheet, blocks ...impl.SheetBlock) {
	t.Helper()
	if tell(got) != tell(sheet(blocks...)) {
		t.Errorf("%s is\n%swant\n%s", what, tell(got), tell(sheet(blocks...)))
	}
	if !impl.SheetValid(got) {
		t.Errorf("%s is not valid:\n%s", what, tell(got))
	}
}

// wantFilled asks for one block, filled and trimmed.
func wantFilled(t *testing.T, b impl.SheetBlock, filled []impl.SheetLine, trimmed []impl.SheetLine) {
	t.Helper()
	wantSheet(t, "SheetFill", impl.SheetFill(sheet(b)), block(b.Kind, b.Name, filled...))
	wantSheet(t, "SheetTrim", impl.SheetTrim(sheet(b)), block(b.Kind, b.Name, trimmed...))
	wantPromise4(t, sheet(b))
	wantPromise5(t, sheet(b))
}

func wantGet(t *testing.T, s impl.Sheet, kind string, name string, key string, want ...impl.SheetLine) {
	t.Helper()
	lines, ok := impl.SheetGet(s, kind, name, key)
	if !ok || tell(sheet(block("", "", lines...))) != tell(sheet(block("", "", want...))) {
		t.Errorf("SheetGet of %q %q %q is %q, %v; want %q", kind, name, key, lines, ok, want)
	}
}

func wantNoGet(t *testing.T, s impl.Sheet, kind string, name string, key string) {
	t.Helper()
	if lines, ok := impl.SheetGet(s, kind, name, key); ok || len(lines) != 0 {
		t.Errorf("SheetGet of %q %q %q is %q, %v; want nothing", kind, name, key, lines, ok)
	}
}

// tellGets tells all that SheetGet says of a sheet, of blocks that it has and of such that it has not.
func tellGets(s impl.Sheet) string {
	told := ""
	for _, kind := range kinds {
		for _, name := range names {
			for _, rule := range append(impl.SheetRules(kind), impl.SheetRule{Key: "zip"}) {
				lines, ok := impl.SheetGet(s, kind, name, rule.Key)
				told += fmt.Sprintf("%q %q %q: %v\n", kind, name, rule.Key, ok) + tell(sheet(block("", "", lines...)))
			}
		}
	}
	return told
}

func wantPromise4(t *testing.T, s impl.Sheet) {
	t.Helper()
	filled, trimmed := impl.SheetFill(s), impl.SheetTrim(s)
	for what, one := range map[string][2]impl.Sheet{
		"SheetFill of SheetFill": {impl.SheetFill(filled), filled},
		"SheetFill of SheetTrim": {impl.SheetFill(trimmed), filled},
		"SheetTrim of SheetFill": {impl.SheetTrim(filled), trimmed},
		"SheetTrim of SheetTrim": {impl.SheetTrim(trimmed), trimmed},
	} {
		wantSheet(t, what, one[0], one[1].Blocks...)
	}
	told := tellGets(s)
	if tellGets(filled) != told || tellGets(trimmed) != told {
		t.Errorf("SheetGet tells another thing of it filled or trimmed:\n%s", tell(s))
	}
}

func wantPromise5(t *testing.T, s impl.Sheet) {
	t.Helper()
	for _, b := range s.Blocks {
		for _, rule := range impl.SheetRules(b.Kind) {
			lines, ok := impl.SheetGet(s, b.Kind, b.Name, rule.Key)
			if !ok || !rule.Many && len(lines) != 1 {
				t.Errorf("SheetGet of %s %s %s is %q, %v", b.Kind, b.Name, rule.Key, lines, ok)
			}
			for _, l := range lines {
				if l.Key != rule.Key || !impl.SheetFits(b.Kind, l.Key, l.Words) {
					t.Errorf("SheetGet of %s %s %s is %q", b.Kind, b.Name, rule.Key, lines)
				}
			}
		}
	}
}

func TestFillEmptySheet(t *testing.T) {
	wantSheet(t, "SheetFill of nothing", impl.SheetFill(impl.Sheet{}))
	wantSheet(t, "SheetTrim of nothing", impl.SheetTrim(impl.Sheet{}))
	wantSheet(t, "SheetFill of no blocks", impl.SheetFill(impl.Sheet{Blocks: []impl.SheetBlock{}}))
	wantPromise4(t, impl.Sheet{})
	wantNoGet(t, impl.Sheet{}, "team", "a", "room")
	wantNoGet(t, impl.Sheet{}, "berth", "b", "mark")
	wantNoGet(t, impl.Sheet{}, "", "", "")
}

var filledService = []impl.SheetLine{
	line("team", "core"), line("image", "1"), line("want", "1"), line("down", "1"), line("over", "0"), line("needs", "1", "1"), line("where", ""),
	line("apart", "none"), line("volume", "no"), line("follow", "0", "0", "0"), line("pace", "0", "0", "0"),
}

func TestFillBlockWithNoLine(t *testing.T) {
	wantFilled(t, block("team", "a"), []impl.SheetLine{line("copies", "100"), line("room", "1000")}, nil)
	wantFilled(t, block("berth", "a"), []impl.SheetLine{line("zone", "z"), line("room", "100"), line("hold", "100")}, nil)
	wantFilled(t, block("service", "a"), filledService, nil)
}

func TestFillBlockWithAllLines(t *testing.T) {
	team := []impl.SheetLine{line("copies", "1"), line("room", "2")}
	wantFilled(t, block("team", "a", team...), team, team)
	berth := []impl.SheetLine{line("zone", "e"), line("room", "1"), line("hold", "2"), line("mark", "m")}
	wantFilled(t, block("berth", "a", berth...), berth, berth)
	service := []impl.SheetLine{
		line("team", "b"), line("image", "2"), line("want", "0"), line("down", "3"), line("over", "4"), line("needs", "1", "2"), line("where", "x"), line("like", "y", "-1"),
		line("apart", "zone"), line("volume", "yes"), line("follow", "0", "0", "1"), line("pace", "1", "0", "0"),
	}
	wantFilled(t, block("service", "a", service...), service, service)
	wantFilled(t, block("service", "a", filledService...), filledService, nil)
}

func TestFillSomeLines(t *testing.T) {
	wantFilled(t, block("team", "a", line("room", "5")), []impl.SheetLine{line("copies", "100"), line("room", "5")}, []impl.SheetLine{line("room", "5")})
	wantFilled(t, block("team", "a", line("copies", "5")), []impl.SheetLine{line("copies", "5"), line("room", "1000")}, []impl.SheetLine{line("copies", "5")})
	wantFilled(t, block("team", "a", line("copies", "5"), line("room", "1000")), []impl.SheetLine{line("copies", "5"), line("room", "1000")}, []impl.SheetLine{line("copies", "5")})
	wantFilled(t, block("berth", "b", line("room", "7"), line("mark", "m")),
		[]impl.SheetLine{line("zone", "z"), line("room", "7"), line("hold", "100"), line("mark", "m")}, []impl.SheetLine{line("room", "7"), line("mark", "m")})
}

func TestTrimEachDefault(t *testing.T) {
	filled := map[string][]impl.SheetLine{
		"team":    {line("copies", "100"), line("room", "1000")},
		"berth":   {line("zone", "z"), line("room", "100"), line("hold", "100")},
		"service": filledService,
	}
	for kind, lines := range filled {
		for _, l := range lines {
			wantFilled(t, block(kind, "a", l), lines, nil)
		}
	}
}

// A word that is the Default of another key, or of the same key of another kind, is none here.
func TestTrimWordsOfAnotherKey(t *testing.T) {
	for kind, lines := range map[string][]impl.SheetLine{
		"team":  {line("copies", "1000"), line("room", "100")},
		"berth": {line("zone", "core"), line("room", "1000"), line("hold", "1")},
		"service": {
			line("team", "z"), line("image", "0"), line("want", "0"), line("down", "100"), line("over", "1"), line("needs", "0", "0"), line("where", "none"),
			line("apart", "berth"), line("volume", "yes"), line("follow", "1", "1", "1"), line("pace", "0", "0", "1"),
		},
	} {
		wantFilled(t, block(kind, "a", lines...), lines, lines)
	}
	for _, l := range []impl.SheetLine{line("needs", "1", "0"), line("needs", "0", "1"), line("follow", "0", "1", "0"), line("where", " "), line("where", "\"\"")} {
		wantSheet(t, "SheetTrim", impl.SheetTrim(sheet(block("service", "a", l))), block("service", "a", l))
	}
}

func TestFillKeysThatAreMany(t *testing.T) {
	marks := []impl.SheetLine{line("mark", "100"), line("mark", "core"), line("mark", "z")}
	wantFilled(t, block("berth", "b", marks...), append([]impl.SheetLine{line("zone", "z"), line("room", "100"), line("hold", "100")}, marks...), marks)
	likes := []impl.SheetLine{line("like", "", "0"), line("like", "1", "1"), line("like", "core", "1"), line("like", "none", "0")}
	filled := slices.Concat(filledService[:7], likes, filledService[7:])
	wantFilled(t, block("service", "s", likes...), filled, likes)
	wantFilled(t, block("service", "s", filled...), filled, likes)
	var most []impl.SheetLine
	for i := range 10 {
		most = append(most, line("mark", fmt.Sprint(i)))
	}
	wantFilled(t, block("berth", "b", most...), append([]impl.SheetLine{line("zone", "z"), line("room", "100"), line("hold", "100")}, most...), most)
}

func TestFillEveryBlock(t *testing.T) {
	s := sheet(block("berth", "a", line("mark", "m")), block("service", "a", filledService...), block("team", "a", line("room", "1000")), block("team", "b", line("room", "1")))
	wantSheet(t, "SheetFill", impl.SheetFill(s),
		block("berth", "a", line("zone", "z"), line("room", "100"), line("hold", "100"), line("mark", "m")),
		block("service", "a", filledService...),
		block("team", "a", line("copies", "100"), line("room", "1000")),
		block("team", "b", line("copies", "100"), line("room", "1")))
	wantSheet(t, "SheetTrim", impl.SheetTrim(s), block("berth", "a", line("mark", "m")), block("service", "a"), block("team", "a"), block("team", "b", line("room", "1")))
}

// A filled sheet may have no text, and is valid all the same.
func TestFillMostBlocks(t *testing.T) {
	var blocks, filled []impl.SheetBlock
	for i := range 60 {
		name := fmt.Sprintf("s%02d", i)
		blocks = append(blocks, block("service", name))
		filled = append(filled, block("service", name, filledService...))
	}
	wantSheet(t, "SheetFill", impl.SheetFill(sheet(blocks...)), filled...)
	wantSheet(t, "SheetTrim", impl.SheetTrim(sheet(filled...)), blocks...)
	wantNoText(t, filled)
	wantGet(t, sheet(blocks...), "service", "s59", "needs", line("needs", "1", "1"))
}

func TestGetOrdinary(t *testing.T) {
	s := sheet(block("berth", "a", line("zone", "e"), line("mark", "m"), line("mark", "n")), block("berth", "b"), block("team", "a", line("copies", "100"), line("room", "5")))
	wantGet(t, s, "berth", "a", "zone", line("zone", "e"))
	wantGet(t, s, "berth", "a", "room", line("room", "100"))
	wantGet(t, s, "berth", "a", "mark", line("mark", "m"), line("mark", "n"))
	wantGet(t, s, "berth", "b", "zone", line("zone", "z"))
	wantGet(t, s, "berth", "b", "mark")
	wantGet(t, s, "team", "a", "copies", line("copies", "100"))
	wantGet(t, s, "team", "a", "room", line("room", "5"))
	for _, l := range filledService {
		wantGet(t, sheet(block("service", "s")), "service", "s", l.Key, l)
	}
	wantGet(t, sheet(block("service", "s")), "service", "s", "like")
	wantGet(t, sheet(block("service", "s", line("like", "", "0"))), "service", "s", "like", line("like", "", "0"))
	wantPromise4(t, s)
	wantPromise5(t, s)
}

func TestGetWhatIsNotThere(t *testing.T) {
	s := sheet(block("berth", "a", line("mark", "m")), block("team", "b", line("room", "5")))
	wantNoGet(t, s, "berth", "b", "mark")
	wantNoGet(t, s, "berth", "b", "room")
	wantNoGet(t, s, "team", "a", "room")
	wantNoGet(t, s, "service", "a", "team")
	wantNoGet(t, s, "service", "a", "like")
	wantNoGet(t, s, "team", "b", "zone")
	wantNoGet(t, s, "team", "b", "mark")
	wantNoGet(t, s, "berth", "a", "copies")
	wantNoGet(t, s, "berth", "a", "marks")
	wantNoGet(t, s, "berth", "a", "")
	wantNoGet(t, s, "berth", "", "mark")
	wantNoGet(t, s, "", "a", "mark")
	wantNoGet(t, s, "Berth", "a", "mark")
	wantNoGet(t, s, "berth", "A", "mark")
	wantNoGet(t, s, "berth a", "", "mark")
	wantNoGet(t, s, "\xff", "\x00", "end")
}

func TestFillWrongSheets(t *testing.T) {
	for what, s := range wrongSheets() {
		if impl.SheetValid(s) {
			t.Errorf("%s: the test's sheet is valid", what)
		}
		wantSheet(t, "SheetFill with "+what, impl.SheetFill(s))
		wantSheet(t, "SheetTrim with "+what, impl.SheetTrim(s))
		for _, b := range s.Blocks {
			for _, rule := range impl.SheetRules(b.Kind) {
				wantNoGet(t, s, b.Kind, b.Name, rule.Key)
			}
			for _, l := range b.Lines {
				wantNoGet(t, s, b.Kind, b.Name, l.Key)
			}
		}
	}
}

// withDefaults puts the Default in the place of some lines' words.
func withDefaults(random *rand.Rand, s impl.Sheet) impl.Sheet {
	for _, b := range s.Blocks {
		for i, l := range b.Lines {
			for _, rule := range impl.SheetRules(b.Kind) {
				if rule.Key == l.Key && !rule.Many && random.Intn(3) == 0 {
					b.Lines[i].Words = rule.Default
				}
			}
		}
	}
	return s
}

func linesWithKey(b impl.SheetBlock, key string) []impl.SheetLine {
	var lines []impl.SheetLine
	for _, l := range b.Lines {
		if l.Key == key {
			lines = append(lines, l)
		}
	}
	return lines
}

// modelFill is what chapter 5 says of SheetFill and SheetTrim, key by key.
func modelFill(s impl.Sheet) (filled impl.Sheet, trimmed impl.Sheet) {
	for _, b := range s.Blocks {
		full, bare := block(b.Kind, b.Name), block(b.Kind, b.Name)
		for _, rule := range impl.SheetRules(b.Kind) {
			lines := linesWithKey(b, rule.Key)
			if rule.Many || len(lines) == 1 && !slices.Equal(lines[0].Words, rule.Default) {
				full.Lines = append(full.Lines, lines...)
				bare.Lines = append(bare.Lines, lines...)
			} else {
				full.Lines = append(full.Lines, line(rule.Key, rule.Default...))
			}
		}
		filled.Blocks = append(filled.Blocks, full)
		trimmed.Blocks = append(trimmed.Blocks, bare)
	}
	return filled, trimmed
}

func TestFillRandomSheets(t *testing.T) {
	random := rand.New(rand.NewSource(6))
	for range 150 {
		s := withDefaults(random, randomSheet(random))
		filled, trimmed := modelFill(s)
		wantSheet(t, "SheetFill", impl.SheetFill(s), filled.Blocks...)
		wantSheet(t, "SheetTrim", impl.SheetTrim(s), trimmed.Blocks...)
		for _, b := range filled.Blocks {
			for _, rule := range impl.SheetRules(b.Kind) {
				wantGet(t, s, b.Kind, b.Name, rule.Key, linesWithKey(b, rule.Key)...)
			}
		}
		wantPromise4(t, s)
		wantPromise5(t, s)
		if t.Failed() {
			return
		}
	}
}

func TestFillAnswersAreNew(t *testing.T) {
	random := rand.New(rand.NewSource(7))
	for range 100 {
		s := withDefaults(random, randomSheet(random))
		wantNewMemory(t, func(args ...impl.Sheet) impl.Sheet { return impl.SheetFill(args[0]) }, s)
		wantNewMemory(t, func(args ...impl.Sheet) impl.Sheet { return impl.SheetTrim(args[0]) }, s)
		for _, b := range s.Blocks {
			for _, rule := range impl.SheetRules(b.Kind) {
				wantNewMemory(t, func(args ...impl.Sheet) impl.Sheet {
					lines, _ := impl.SheetGet(args[0], b.Kind, b.Name, rule.Key)
					return sheet(block("", "", lines...))
				}, s)
			}
		}
		if t.Failed() {
			return
		}
	}
	for what, s := range wrongSheets() {
		wantNewMemory(t, func(args ...impl.Sheet) impl.Sheet { return impl.SheetFill(args[0]) }, s)
		wantNewMemory(t, func(args ...impl.Sheet) impl.Sheet { return impl.SheetTrim(args[0]) }, s)
		if t.Failed() {
			t.Fatalf("with %s", what)
		}
	}
}
