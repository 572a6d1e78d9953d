package tests

import (
	"fmt"
	"math/rand"
	"slices"
	"strings"
	"testing"

	"loop.example/wharfsheet/impl"
)

func gone(kind string, name string) impl.SheetChange {
	return impl.SheetChange{What: impl.SheetGone, Kind: kind, Name: name}
}

func isNew(kind string, name string, lines ...impl.SheetLine) impl.SheetChange {
	return impl.SheetChange{What: impl.SheetNew, Kind: kind, Name: name, Lines: lines}
}

func set(kind string, name string, key string, lines ...impl.SheetLine) impl.SheetChange {
	return impl.SheetChange{What: impl.SheetSet, Kind: kind, Name: name, Key: key, Lines: lines}
}

func unset(kind string, name string, key string) impl.SheetChange {
	return impl.SheetChange{What: impl.SheetUnset, Kind: kind, Name: name, Key: key}
}

// linesAsSheet has the very lists of lines that changes have, a block a change.
func linesAsSheet(list []impl.SheetChange) impl.Sheet {
	var s impl.Sheet
	for _, c := range list {
		s.Blocks = append(s.Blocks, block(c.Kind, c.Name, c.Lines...))
	}
	return s
}

// tellChanges writes changes so that two lists are told alike exactly if they are the same value.
func tellChanges(list []impl.SheetChange) string {
	told := ""
	for i, c := range list {
		told += fmt.Sprintf("%d %q ", c.What, c.Key) + tell(linesAsSheet(list[i:i+1]))
	}
	return told
}

func wantChanges(t *testing.T, what string, got []impl.SheetChange, want ...impl.SheetChange) {
	t.Helper()
	if tellChanges(got) != tellChanges(want) {
		t.Errorf("%s is\n%.2000swant\n%.2000s", what, tellChanges(got), tellChanges(want))
	}
}

func wantDiff(t *testing.T, a impl.Sheet, b impl.Sheet, want ...impl.SheetChange) {
	t.Helper()
	wantChanges(t, "SheetDiff", impl.SheetDiff(a, b), want...)
	for _, one := range []impl.Sheet{{}, a, b} {
		for _, other := range []impl.Sheet{{}, a, b} {
			wantPromise8(t, one, other)
		}
	}
}

func wantPromise8(t *testing.T, a impl.Sheet, b impl.Sheet) {
	t.Helper()
	list := impl.SheetDiff(a, b)
	if (len(list) == 0) != (tell(a) == tell(b)) {
		t.Errorf("there are %d differences of\n%sand\n%s", len(list), tell(a), tell(b))
	}
	made, code := impl.SheetApply(a, list)
	if code != 0 {
		t.Errorf("SheetApply of SheetDiff has the code %d", code)
	}
	wantSheet(t, "SheetApply of SheetDiff", made, b.Blocks...)
	for size := range list {
		wantPromise9(t, a, list[:size])
	}
}

func wantPromise9(t *testing.T, a impl.Sheet, list []impl.SheetChange) {
	t.Helper()
	made, code := impl.SheetApply(a, list)
	if code == 0 && !impl.SheetValid(made) {
		t.Errorf("SheetApply gives, with code 0, a sheet that is not valid:\n%s", tell(made))
	}
	if code != 0 && len(made.Blocks) != 0 {
		t.Errorf("SheetApply gives, with code %d, a sheet:\n%s", code, tell(made))
	}
}

func TestKindsOfChangesAreTheDocuments(t *testing.T) {
	if got := []int{impl.SheetGone, impl.SheetNew, impl.SheetSet, impl.SheetUnset}; !slices.Equal(got, []int{1, 2, 3, 4}) {
		t.Errorf("kinds of changes are %v", got)
	}
}

func TestDiffOfTheSame(t *testing.T) {
	wantDiff(t, impl.Sheet{}, impl.Sheet{})
	wantDiff(t, impl.Sheet{Blocks: []impl.SheetBlock{}}, impl.Sheet{})
	wantDiff(t, sheet(block("team", "a")), sheet(impl.SheetBlock{Kind: "team", Name: "a", Lines: []impl.SheetLine{}}))
	full := func() impl.Sheet {
		return sheet(block("berth", "b", line("zone", "e"), line("mark", "m"), line("mark", "n")), block("service", "s", filledService...), block("team", "t"))
	}
	wantDiff(t, full(), full())
}

func TestDiffBlocksThatGo(t *testing.T) {
	wantDiff(t, sheet(block("team", "a")), impl.Sheet{}, gone("team", "a"))
	wantDiff(t, sheet(block("team", "a", line("room", "1"))), impl.Sheet{}, gone("team", "a"))
	a := sheet(block("berth", "b"), block("service", "b", line("want", "3")), block("team", "a"), block("team", "b"))
	wantDiff(t, a, impl.Sheet{}, gone("berth", "b"), gone("service", "b"), gone("team", "a"), gone("team", "b"))
	wantDiff(t, a, sheet(block("service", "b", line("want", "3"))), gone("berth", "b"), gone("team", "a"), gone("team", "b"))
	wantDiff(t, a, sheet(block("berth", "b"), block("team", "b")), gone("service", "b"), gone("team", "a"))
}

func TestDiffNewBlocks(t *testing.T) {
	wantDiff(t, impl.Sheet{}, sheet(block("team", "a")), isNew("team", "a"))
	wantDiff(t, impl.Sheet{}, sheet(block("team", "a", line("room", "1"))), isNew("team", "a", line("room", "1")))
	b := sheet(block("berth", "b", line("room", "5"), line("mark", "m"), line("mark", "n")), block("service", "b"), block("team", "a", line("copies", "1"), line("room", "2")))
	wantDiff(t, impl.Sheet{}, b, isNew("berth", "b", b.Blocks[0].Lines...), isNew("service", "b"), isNew("team", "a", b.Blocks[2].Lines...))
	wantDiff(t, sheet(block("service", "b")), b, isNew("berth", "b", b.Blocks[0].Lines...), isNew("team", "a", b.Blocks[2].Lines...))
	wantDiff(t, impl.Sheet{}, sheet(block("service", "s", filledService...)), isNew("service", "s", filledService...))
}

// Neither the kind nor the name alone makes two blocks one.
func TestDiffBlocksThatAreNotOne(t *testing.T) {
	wantDiff(t, sheet(block("berth", "a", line("room", "1"))), sheet(block("team", "a", line("room", "1"))), gone("berth", "a"), isNew("team", "a", line("room", "1")))
	wantDiff(t, sheet(block("team", "a", line("room", "1"))), sheet(block("team", "b", line("room", "1"))), gone("team", "a"), isNew("team", "b", line("room", "1")))
	wantDiff(t, sheet(block("team", "b")), sheet(block("team", "a"), block("team", "ab")), gone("team", "b"), isNew("team", "a"), isNew("team", "ab"))
}

func TestDiffLinesOfOneKey(t *testing.T) {
	team := func(lines ...impl.SheetLine) impl.Sheet { return sheet(block("team", "a", lines...)) }
	wantDiff(t, team(line("room", "1")), team(line("room", "2")), set("team", "a", "room", line("room", "2")))
	wantDiff(t, team(), team(line("room", "2")), set("team", "a", "room", line("room", "2")))
	wantDiff(t, team(line("room", "1")), team(), unset("team", "a", "room"))
	wantDiff(t, team(line("copies", "1"), line("room", "1")), team(line("room", "1")), unset("team", "a", "copies"))
	wantDiff(t, team(line("copies", "1")), team(line("room", "1")), unset("team", "a", "copies"), set("team", "a", "room", line("room", "1")))
	wantDiff(t, team(line("room", "1")), team(line("copies", "1")), set("team", "a", "copies", line("copies", "1")), unset("team", "a", "room"))
	wantDiff(t, team(line("copies", "1"), line("room", "1")), team(line("copies", "2"), line("room", "2")),
		set("team", "a", "copies", line("copies", "2")), set("team", "a", "room", line("room", "2")))
	service := func(words ...string) impl.Sheet { return sheet(block("service", "s", line("needs", words...))) }
	wantDiff(t, service("1", "2"), service("1", "3"), set("service", "s", "needs", line("needs", "1", "3")))
	wantDiff(t, service("1", "2"), service("3", "2"), set("service", "s", "needs", line("needs", "3", "2")))
	wantDiff(t, service("1", "2"), service("2", "1"), set("service", "s", "needs", line("needs", "2", "1")))
}

// What is said by default is another thing than what is left out.
func TestDiffDefaults(t *testing.T) {
	wantDiff(t, sheet(block("team", "a", line("room", "1000"))), sheet(block("team", "a")), unset("team", "a", "room"))
	wantDiff(t, sheet(block("team", "a")), sheet(block("team", "a", line("room", "1000"))), set("team", "a", "room", line("room", "1000")))
	wantDiff(t, sheet(block("service", "s")), sheet(block("service", "s", line("where", ""))), set("service", "s", "where", line("where", "")))
}

func TestDiffKeysThatAreMany(t *testing.T) {
	berth := func(marks ...string) impl.Sheet {
		var lines []impl.SheetLine
		for _, mark := range marks {
			lines = append(lines, line("mark", mark))
		}
		return sheet(block("berth", "b", lines...))
	}
	marks := func(marks ...string) impl.SheetChange {
		return set("berth", "b", "mark", berth(marks...).Blocks[0].Lines...)
	}
	wantDiff(t, berth(), berth("m"), marks("m"))
	wantDiff(t, berth("m"), berth(), unset("berth", "b", "mark"))
	wantDiff(t, berth("m", "n"), berth(), unset("berth", "b", "mark"))
	wantDiff(t, berth("m"), berth("m", "n"), marks("m", "n"))
	wantDiff(t, berth("m", "n"), berth("m"), marks("m"))
	wantDiff(t, berth("m", "n"), berth("n"), marks("n"))
	wantDiff(t, berth("m", "n"), berth("m", "o"), marks("m", "o"))
	wantDiff(t, berth("m", "n"), berth("l", "n"), marks("l", "n"))
	wantDiff(t, berth("0", "1", "2", "3", "4", "5", "6", "7", "8", "9"), berth("a", "b", "c", "d", "e", "f", "g", "h", "i", "j"), marks("a", "b", "c", "d", "e", "f", "g", "h", "i", "j"))
	wantDiff(t,
		sheet(block("service", "s", line("image", "1"), line("like", "x", "1"), line("like", "y", "2"), line("apart", "zone"))),
		sheet(block("service", "s", line("image", "1"), line("like", "x", "1"), line("like", "y", "3"), line("pace", "1", "2", "3"))),
		set("service", "s", "like", line("like", "x", "1"), line("like", "y", "3")), unset("service", "s", "apart"), set("service", "s", "pace", line("pace", "1", "2", "3")))
}

func TestDiffEveryKeyInItsOrder(t *testing.T) {
	var sets, unsets []impl.SheetChange
	for _, l := range filledService {
		sets = append(sets, set("service", "s", l.Key, l))
		unsets = append(unsets, unset("service", "s", l.Key))
	}
	wantDiff(t, sheet(block("service", "s")), sheet(block("service", "s", filledService...)), sets...)
	wantDiff(t, sheet(block("service", "s", filledService...)), sheet(block("service", "s")), unsets...)
}

// All that goes comes first; new blocks and changed ones stand in one order, that of the second sheet.
func TestDiffOrder(t *testing.T) {
	a := sheet(block("berth", "c"), block("service", "m", line("want", "3")), block("team", "b", line("room", "1")), block("team", "z"))
	b := sheet(block("berth", "a"), block("service", "m", line("image", "2")), block("service", "n", line("want", "1")), block("team", "a"), block("team", "b", line("room", "2")), block("team", "c"))
	wantDiff(t, a, b,
		gone("berth", "c"), gone("team", "z"),
		isNew("berth", "a"), set("service", "m", "image", line("image", "2")), unset("service", "m", "want"), isNew("service", "n", line("want", "1")),
		isNew("team", "a"), set("team", "b", "room", line("room", "2")), isNew("team", "c"))
}

func TestDiffMostBlocks(t *testing.T) {
	var all []impl.SheetChange
	for _, b := range teams(0, 60) {
		all = append(all, gone(b.Kind, b.Name))
	}
	wantDiff(t, sheet(teams(0, 60)...), impl.Sheet{}, all...)
	for _, b := range teams(60, 120, line("room", "1")) {
		all = append(all, isNew(b.Kind, b.Name, b.Lines...))
	}
	wantDiff(t, sheet(teams(0, 60)...), sheet(teams(60, 120, line("room", "1"))...), all...)
	wantDiff(t, sheet(teams(1, 61)...), sheet(teams(0, 60)...), gone("team", "t060"), isNew("team", "t000"))
	wantDiff(t, sheet(teams(0, 60)...), sheet(teams(1, 61)...), gone("team", "t000"), isNew("team", "t060"))
}

// A sheet without a text has differences all the same.
func TestDiffLongText(t *testing.T) {
	where := line("where", strings.Repeat("\xff", 200))
	var blocks []impl.SheetBlock
	for i := range 60 {
		blocks = append(blocks, block("service", fmt.Sprintf("s%02d", i), where))
	}
	wantNoText(t, blocks)
	other := slices.Clone(blocks)
	other[59].Lines = []impl.SheetLine{where, line("like", "", "0")}
	wantDiff(t, sheet(blocks...), sheet(other...), set("service", "s59", "like", line("like", "", "0")))
}

func TestDiffWrongSheets(t *testing.T) {
	right := []impl.Sheet{
		{},
		sheet(block("team", "z")),
		sheet(block("berth", "b", line("room", "1"), line("mark", "m")), block("team", "a", line("copies", "1"), line("room", "1"))),
	}
	for what, wrong := range wrongSheets() {
		for _, s := range right {
			wantChanges(t, "SheetDiff with "+what+" as the first", impl.SheetDiff(wrong, s))
			wantChanges(t, "SheetDiff with "+what+" as the second", impl.SheetDiff(s, wrong))
		}
		wantChanges(t, "SheetDiff with "+what+" as both", impl.SheetDiff(wrong, wrong))
	}
}

// modelDiff is what chapter 7 says of SheetDiff, block by block and key by key.
func modelDiff(a impl.Sheet, b impl.Sheet) []impl.SheetChange {
	var went, others []impl.SheetChange
	for _, kind := range []string{"berth", "service", "team"} {
		for _, name := range names {
			here := func(one impl.SheetBlock) bool { return one.Kind == kind && one.Name == name }
			i, j := slices.IndexFunc(a.Blocks, here), slices.IndexFunc(b.Blocks, here)
			if i < 0 && j < 0 {
				continue
			}
			if j < 0 {
				went = append(went, gone(kind, name))
				continue
			}
			if i < 0 {
				others = append(others, isNew(kind, name, b.Blocks[j].Lines...))
				continue
			}
			for _, rule := range impl.SheetRules(kind) {
				old, wanted := linesWithKey(a.Blocks[i], rule.Key), linesWithKey(b.Blocks[j], rule.Key)
				if fmt.Sprintf("%q", old) == fmt.Sprintf("%q", wanted) {
					continue
				}
				if len(wanted) == 0 {
					others = append(others, unset(kind, name, rule.Key))
				} else {
					others = append(others, set(kind, name, rule.Key, wanted...))
				}
			}
		}
	}
	return append(went, others...)
}

func TestDiffRandomSheets(t *testing.T) {
	random := rand.New(rand.NewSource(10))
	for range 300 {
		a, b := withDefaults(random, randomSheet(random)), withDefaults(random, randomSheet(random))
		wantChanges(t, "SheetDiff", impl.SheetDiff(a, b), modelDiff(a, b)...)
		wantPromise8(t, a, b)
		filled, trimmed := modelFill(a)
		wantPromise8(t, a, filled)
		wantPromise8(t, trimmed, a)
		wantPromise8(t, a, a)
		if t.Failed() {
			return
		}
	}
}

func TestDiffAnswersAreNew(t *testing.T) {
	differ := func(args ...impl.Sheet) impl.Sheet { return linesAsSheet(impl.SheetDiff(args[0], args[1])) }
	random := rand.New(rand.NewSource(11))
	for range 200 {
		a, b := withDefaults(random, randomSheet(random)), withDefaults(random, randomSheet(random))
		wantNewMemory(t, differ, a, b)
		wantNewMemory(t, differ, impl.Sheet{}, a)
		wantNewMemory(t, differ, a, impl.Sheet{})
		if t.Failed() {
			return
		}
	}
	for what, wrong := range wrongSheets() {
		wantNewMemory(t, differ, wrong, sheet(block("team", "a", line("room", "1"))))
		wantNewMemory(t, differ, sheet(block("team", "a", line("room", "1"))), wrong)
		if t.Failed() {
			t.Fatalf("with %s", what)
		}
	}
}
