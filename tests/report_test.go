package tests

import (
	"fmt"
	"math/rand"
	"strings"
	"testing"

	"loop.example/wharfsheet/impl"
)

func wantReport(t *testing.T, a string, b string, lines ...string) {
	t.Helper()
	want := strings.Join(lines, "\n") + "\n"
	if got := impl.SheetReport(a, b); got != want {
		t.Errorf("SheetReport(%.200q, %.200q) is\n%.2000swant\n%.2000s", a, b, got, want)
	}
	for _, one := range []string{a, b, ""} {
		for _, other := range []string{a, b, ""} {
			wantPromise10(t, one, other)
		}
	}
}

func wantPromise10(t *testing.T, a string, b string) {
	t.Helper()
	old, oldFault := impl.SheetParse(a)
	wanted, newFault := impl.SheetParse(b)
	alike := oldFault.Code == 0 && newFault.Code == 0 && tell(impl.SheetFill(old)) == tell(impl.SheetFill(wanted))
	if told := impl.SheetReport(a, b); alike != (told == "the same\n") {
		t.Errorf("SheetReport(%.200q, %.200q) is\n%.2000s", a, b, told)
	}
}

func TestReportExample(t *testing.T) {
	wantReport(t,
		"service web\n  want 3\n  like ssd 5   # soon\nend\nteam core\nend\n",
		"service web\n  image 2\n  want 3\nend\nservice db\n  volume yes\n  where \"zone=east & ssd\"\nend\n",
		"- team core",
		"+ service db: team core, image 1, want 1, down 1, over 0, needs 1 1, where \"zone=east & ssd\", apart none, volume yes, follow 0 0 0, pace 0 0 0",
		"~ service web: image 2",
		"~ service web: no like")
}

func TestReportTheSame(t *testing.T) {
	wantReport(t, "", "", "the same")
	wantReport(t, "", " \n# nothing\n", "the same")
	wantReport(t, "team a\nend", "team a\nend", "the same")
	wantReport(t, "team a\nend", "team a\nroom 1000\nend", "the same")
	wantReport(t, "team a\ncopies 100\nend", "team a\nroom 1000\nend", "the same")
	wantReport(t, "team a\nroom 5\nend\nberth b\nmark n\nmark m\nend", "berth b\n\"mark\" m # one\n mark \"n\"\nhold 100\nend\n\nteam a\ncopies 100\nroom 5\nend\n", "the same")
	wantReport(t, "service s\nend", "service s\npace 0 0 0\nfollow 0 0 0\nvolume no\napart none\nwhere \"\"\nneeds 1 1\nover 0\ndown 1\nwant 1\nimage 1\nteam core\nend", "the same")
}

func TestReportBlocks(t *testing.T) {
	wantReport(t, "team a\nend", "", "- team a")
	wantReport(t, "team a\nroom 5\nend", "", "- team a")
	wantReport(t, "team b\nend\nteam a\nend\nberth c\nmark m\nend", "", "- berth c", "- team a", "- team b")
	wantReport(t, "", "team a\nend", "+ team a: copies 100, room 1000")
	wantReport(t, "", "team a\nroom 5\nend", "+ team a: copies 100, room 5")
	wantReport(t, "", "berth b\nend", "+ berth b: zone z, room 100, hold 100")
	wantReport(t, "", "berth b\nmark n\nmark m\nend", "+ berth b: zone z, room 100, hold 100, mark m, mark n")
	wantReport(t, "", "service s\nlike \"a b\" -1\nend", "+ service s: team core, image 1, want 1, down 1, over 0, needs 1 1, where \"\", like \"a b\" -1, apart none, volume no, follow 0 0 0, pace 0 0 0")
	wantReport(t, "team a\nend", "team b\nend", "- team a", "+ team b: copies 100, room 1000")
	wantReport(t, "team a\nend", "berth a\nend", "- team a", "+ berth a: zone z, room 100, hold 100")
	wantReport(t, "berth y\nend\nteam b\nend\nteam z\nend", "berth a\nend\nteam b\nroom 1\nend\nteam c\nend",
		"- berth y", "- team z", "+ berth a: zone z, room 100, hold 100", "~ team b: room 1", "+ team c: copies 100, room 1000")
}

func TestReportLines(t *testing.T) {
	wantReport(t, "team a\nroom 1\nend", "team a\nroom 2\nend", "~ team a: room 2")
	wantReport(t, "team a\nroom 1\nend", "team a\nend", "~ team a: room 1000")
	wantReport(t, "team a\nend", "team a\nroom 1\nend", "~ team a: room 1")
	wantReport(t, "team a\nroom 1\nend", "team a\ncopies 1\nend", "~ team a: copies 1", "~ team a: room 1000")
	wantReport(t, "service s\nneeds 1 2\nend", "service s\nneeds 2 1\nend", "~ service s: needs 2 1")
	wantReport(t, "service s\nwhere x\nend", "service s\nend", "~ service s: where \"\"")
	wantReport(t, "service s\nend", "service s\nwhere \"\\22\\5c\\0a\\ff #\"\nend", "~ service s: where \"\\22\\5c\\0a\\ff #\"")
	wantReport(t, "berth b\nmark x\nend", "berth b\nmark x\nmark y\nend", "~ berth b: mark x, mark y")
	wantReport(t, "berth b\nmark x\nmark y\nend", "berth b\nmark y\nend", "~ berth b: mark y")
	wantReport(t, "berth b\nmark x\nmark y\nend", "berth b\nend", "~ berth b: no mark")
	wantReport(t, "berth b\nend", "berth b\nmark x\nend", "~ berth b: mark x")
	wantReport(t, "service s\nend", "service s\nlike b 1\nlike a 9\nlike a 10\nend", "~ service s: like a 10, like a 9, like b 1")
	wantReport(t, "service s\nlike b 1\napart zone\nend", "service s\nwant 2\nend", "~ service s: want 2", "~ service s: no like", "~ service s: apart none")
}

func TestReportMostOfAll(t *testing.T) {
	var a, b string
	var lines []string
	for i := range 60 {
		a += fmt.Sprintf("service s%02d\nend\n", i)
		b += fmt.Sprintf("team t%02d\nend\n", i)
		lines = append(lines, fmt.Sprintf("- service s%02d", i))
	}
	for i := range 60 {
		lines = append(lines, fmt.Sprintf("+ team t%02d: copies 100, room 1000", i))
	}
	// Filled, the sheet of a has no text.
	old, _ := impl.SheetParse(a)
	wantNoText(t, impl.SheetFill(old).Blocks)
	wantReport(t, a, b, lines...)
	wantReport(t, a, a, "the same")
	wantReport(t, a, strings.Replace(a, "service s59\n", "service s59\nwant 2\n", 1), "~ service s59: want 2")
	marks, told := "", "~ berth b"
	for i := range 10 {
		marks += fmt.Sprintf("mark m%d\n", 9-i)
		told += []string{": ", ", "}[min(i, 1)] + fmt.Sprintf("mark m%d", i)
	}
	wantReport(t, "berth b\nend", "berth b\n"+marks+"end", told)
	wantReport(t, strings.Repeat("\n", 400), strings.Repeat("#", 20000), "the same")
}

// faulty are texts with each fault, by their line and what is told of it; the one that is too long has no line.
func faulty() map[string][2]string {
	marks, blocks := "", ""
	for i := range 11 {
		marks += fmt.Sprintf("mark m%d\n", i)
	}
	for i := range 60 {
		blocks += fmt.Sprintf("team t%d\nend\n", i)
	}
	return map[string][2]string{
		"team a\n\"\nend":                    {":2", "a word that is none"},
		"\n\nteam":                           {":3", "a line outside of blocks"},
		"team a\nend\nend":                   {":3", "a line outside of blocks"},
		"zone a\nend":                        {":1", "no such kind"},
		"team a\nend\nteam A\nend":           {":3", "no such name"},
		"team a\n\nzone z\nend":              {":3", "no such key"},
		"team a\nroom 1\nroom 1\nend":        {":3", "said twice"},
		"berth b\nmark m\nmark m\nend":       {":3", "said twice"},
		"team a\nroom x\nend":                {":2", "not what the key takes"},
		"team a\nroom 1\n":                   {":3", "a block that is not ended"},
		strings.Repeat("\n", 399) + "team a": {":401", "a block that is not ended"},
		"team a\nend\nteam a\nend":           {":3", "a block again"},
		blocks + "berth b\nend":              {":121", "too many"},
		"berth b\n" + marks + "end":          {":12", "too many"},
		strings.Repeat("#", 20001):           {"", "too long"},
		strings.Repeat("\n", 401):            {"", "too long"},
		"\"" + strings.Repeat("\n", 401):     {"", "too long"},
	}
}

func TestReportFaults(t *testing.T) {
	told := map[string]bool{}
	for text, fault := range faulty() {
		told[fault[1]] = true
		wantOld, wantNew := "old"+fault[0]+": "+fault[1], "new"+fault[0]+": "+fault[1]
		wantReport(t, text, "", wantOld)
		wantReport(t, "", text, wantNew)
		wantReport(t, text, text, wantOld)
		wantReport(t, text, "team a\nroom 5\nend", wantOld)
		wantReport(t, "team a\nroom 5\nend", text, wantNew)
		for other := range faulty() {
			wantReport(t, text, other, wantOld)
		}
	}
	if len(told) != 11 {
		t.Errorf("the test's texts have %d faults of 11", len(told))
	}
}

// Of a text with several faults the first is told, and no differences.
func TestReportFirstFault(t *testing.T) {
	wantReport(t, "team a\nroom x\nzip\nend", "team b\nend", "old:2: not what the key takes")
	wantReport(t, "team b\nend", "team a\nzip\nroom x\nend\n\"", "new:2: no such key")
	wantReport(t, "team b\nend", "team a\nend\n\x00", "new:3: a word that is none")
}

// modelReport is chapter 8 once more, of sheets in the place of texts.
func modelReport(a impl.Sheet, b impl.Sheet) string {
	filledA, _ := modelFill(a)
	filledB, _ := modelFill(b)
	report := ""
	for _, c := range modelDiff(filledA, filledB) {
		report += []string{"", "-", "+", "~", "~"}[c.What] + " " + c.Kind + " " + c.Name
		if c.What == 4 {
			report += ": no " + c.Key
		}
		var told []string
		for _, l := range c.Lines {
			words := l.Key
			for _, word := range l.Words {
				words += " " + impl.SheetWord(word)
			}
			told = append(told, words)
		}
		if len(told) > 0 {
			report += ": " + strings.Join(told, ", ")
		}
		report += "\n"
	}
	if report == "" {
		return "the same\n"
	}
	return report
}

func wantRandomReport(t *testing.T, random *rand.Rand, a impl.Sheet, b impl.Sheet) {
	t.Helper()
	one, other := shuffledText(random, a), shuffledText(random, b)
	if got, want := impl.SheetReport(one, other), modelReport(a, b); got != want {
		t.Errorf("SheetReport(%q, %q) is\n%swant\n%s", one, other, got, want)
	}
	wantPromise10(t, one, other)
}

func TestReportRandomSheets(t *testing.T) {
	random := rand.New(rand.NewSource(14))
	for range 300 {
		a, b := withDefaults(random, randomSheet(random)), withDefaults(random, randomSheet(random))
		filled, trimmed := modelFill(a)
		wantRandomReport(t, random, a, b)
		wantRandomReport(t, random, a, a)
		wantRandomReport(t, random, a, filled)
		wantRandomReport(t, random, trimmed, a)
		wantRandomReport(t, random, filled, trimmed)
		if changed, code := modelApply(a, changes(randomChange(random, a))); code == 0 {
			wantRandomReport(t, random, a, changed)
		}
		if t.Failed() {
			return
		}
	}
}

func TestReportRandomTexts(t *testing.T) {
	random := rand.New(rand.NewSource(15))
	for range 5000 {
		a, b := randomText(random), randomText(random)
		wantPromise10(t, a, b)
		wantPromise10(t, a, a+"\n# the same\n")
		if t.Failed() {
			return
		}
	}
}
