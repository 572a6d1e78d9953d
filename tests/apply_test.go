package tests

import (
	"fmt"
	"math"
	"math/rand"
	"slices"
	"strings"
	"testing"

	"loop.example/wharfsheet/impl"
)

func changes(list ...impl.SheetChange) []impl.SheetChange {
	return list
}

func wantApply(t *testing.T, a impl.Sheet, list []impl.SheetChange, blocks ...impl.SheetBlock) {
	t.Helper()
	made, code := impl.SheetApply(a, list)
	if code != 0 {
		t.Errorf("SheetApply has the code %d, want 0", code)
	}
	wantSheet(t, "SheetApply", made, blocks...)
	for size := range list {
		wantPromise9(t, a, list[:size])
	}
}

func wantCode(t *testing.T, what string, a impl.Sheet, list []impl.SheetChange, want int) {
	t.Helper()
	made, code := impl.SheetApply(a, list)
	if code != want || len(made.Blocks) != 0 {
		t.Errorf("%s: SheetApply has the code %d, want %d, and nothing; it is\n%s", what, code, want, tell(made))
	}
}

// wantRefused asks for a change's refusal at the first place, at later ones, and with others behind it, be they right or wrong. The sheet has no berth zz.
func wantRefused(t *testing.T, what string, a impl.Sheet, wrong impl.SheetChange) {
	t.Helper()
	come, leave := isNew("berth", "zz"), gone("berth", "zz")
	wantCode(t, what, a, changes(wrong), 2)
	wantCode(t, what+", ahead of others", a, changes(wrong, come, leave), 2)
	wantCode(t, what+", twice", a, changes(wrong, wrong), 2)
	wantCode(t, what+", ahead of another fault", a, changes(wrong, leave), 2)
	wantCode(t, what+", behind another fault", a, changes(leave, wrong), 2)
	wantCode(t, what+", behind others", a, changes(come, leave, wrong), 4)
	wantCode(t, what+", between others", a, changes(come, leave, come, leave, wrong, come), 6)
	wantCode(t, what+", twice behind others", a, changes(come, leave, wrong, wrong, gone("", "")), 4)
}

// ordinary is a sheet with blocks of each kind, with lines and with none.
func ordinary() impl.Sheet {
	return sheet(
		block("berth", "b", line("room", "5"), line("mark", "m"), line("mark", "n")),
		block("service", "s", line("want", "3"), line("like", "x", "1"), line("volume", "yes")),
		block("team", "a", line("copies", "1"), line("room", "2")),
		block("team", "c"))
}

// ordinaryWith is the same with one of its blocks given other lines.
func ordinaryWith(place int, lines ...impl.SheetLine) []impl.SheetBlock {
	blocks := ordinary().Blocks
	blocks[place].Lines = lines
	return blocks
}

func TestApplyNoChange(t *testing.T) {
	wantApply(t, impl.Sheet{}, nil)
	wantApply(t, impl.Sheet{Blocks: []impl.SheetBlock{}}, changes())
	wantApply(t, ordinary(), nil, ordinary().Blocks...)
	wantApply(t, ordinary(), changes(), ordinary().Blocks...)
}

func TestApplyBlocksThatGo(t *testing.T) {
	all := ordinary().Blocks
	for i, b := range all {
		wantApply(t, ordinary(), changes(gone(b.Kind, b.Name)), slices.Delete(slices.Clone(all), i, i+1)...)
	}
	wantApply(t, ordinary(), changes(gone("team", "a"), gone("berth", "b"), gone("team", "c"), gone("service", "s")))
	wantApply(t, ordinary(), changes(impl.SheetChange{What: impl.SheetGone, Kind: "team", Name: "c", Lines: []impl.SheetLine{}}), all[:3]...)
}

func TestApplyNewBlocks(t *testing.T) {
	all := ordinary().Blocks
	room := line("room", "7")
	wantApply(t, impl.Sheet{}, changes(isNew("team", "a")), block("team", "a"))
	wantApply(t, impl.Sheet{}, changes(isNew("team", "a", room)), block("team", "a", room))
	wantApply(t, impl.Sheet{}, changes(impl.SheetChange{What: impl.SheetNew, Kind: "team", Name: "a", Lines: []impl.SheetLine{}}), block("team", "a"))
	wantApply(t, ordinary(), changes(isNew("berth", "a", room)), slices.Insert(slices.Clone(all), 0, block("berth", "a", room))...)
	wantApply(t, ordinary(), changes(isNew("service", "b")), slices.Insert(slices.Clone(all), 1, block("service", "b"))...)
	wantApply(t, ordinary(), changes(isNew("team", "b", room)), slices.Insert(slices.Clone(all), 3, block("team", "b", room))...)
	wantApply(t, ordinary(), changes(isNew("team", "d")), slices.Insert(slices.Clone(all), 4, block("team", "d"))...)
	wantApply(t, impl.Sheet{}, changes(isNew("team", "b"), isNew("team", "a"), isNew("service", "z"), isNew("berth", "c")),
		block("berth", "c"), block("service", "z"), block("team", "a"), block("team", "b"))
	many := []impl.SheetLine{line("zone", "e"), line("mark", "-"), line("mark", "0"), line("mark", "a")}
	wantApply(t, impl.Sheet{}, changes(isNew("berth", "b", many...)), block("berth", "b", many...))
	wantApply(t, impl.Sheet{}, changes(isNew("service", "s", filledService...)), block("service", "s", filledService...))
	wantApply(t, impl.Sheet{}, changes(isNew("team", strings.Repeat("n", 20))), block("team", strings.Repeat("n", 20)))
}

func TestApplySetsLines(t *testing.T) {
	wantApply(t, ordinary(), changes(set("team", "a", "room", line("room", "9"))), ordinaryWith(2, line("copies", "1"), line("room", "9"))...)
	wantApply(t, ordinary(), changes(set("team", "a", "copies", line("copies", "9"))), ordinaryWith(2, line("copies", "9"), line("room", "2"))...)
	wantApply(t, ordinary(), changes(set("team", "a", "copies", line("copies", "1"))), ordinary().Blocks...)
	wantApply(t, ordinary(), changes(set("team", "c", "room", line("room", "1000"))), ordinaryWith(3, line("room", "1000"))...)
	wantApply(t, ordinary(), changes(set("service", "s", "where", line("where", ""))), ordinaryWith(1, line("want", "3"), line("where", ""), line("like", "x", "1"), line("volume", "yes"))...)
	wantApply(t, ordinary(), changes(set("service", "s", "team", line("team", "z"))), ordinaryWith(1, line("team", "z"), line("want", "3"), line("like", "x", "1"), line("volume", "yes"))...)
	wantApply(t, ordinary(), changes(set("service", "s", "pace", line("pace", "3", "2", "1"))), ordinaryWith(1, line("want", "3"), line("like", "x", "1"), line("volume", "yes"), line("pace", "3", "2", "1"))...)
}

func TestApplySetsLinesOfMany(t *testing.T) {
	room := line("room", "5")
	wantApply(t, ordinary(), changes(set("berth", "b", "mark", line("mark", "a"))), ordinaryWith(0, room, line("mark", "a"))...)
	wantApply(t, ordinary(), changes(set("berth", "b", "mark", line("mark", "n"), line("mark", "o"))), ordinaryWith(0, room, line("mark", "n"), line("mark", "o"))...)
	wantApply(t, ordinary(), changes(set("service", "s", "like", line("like", "x", "1"), line("like", "x", "2"))),
		ordinaryWith(1, line("want", "3"), line("like", "x", "1"), line("like", "x", "2"), line("volume", "yes"))...)
}

// Lines of SheetSet may come in any order.
func TestApplyPutsSetLinesInOrder(t *testing.T) {
	wantApply(t, ordinary(), changes(set("berth", "b", "mark", line("mark", "c"), line("mark", "ab"), line("mark", "-"), line("mark", "a"))),
		ordinaryWith(0, line("room", "5"), line("mark", "-"), line("mark", "a"), line("mark", "ab"), line("mark", "c"))...)
	wantApply(t, ordinary(), changes(set("service", "s", "like", line("like", "b", "0"), line("like", "\xff", "0"), line("like", "a", "9"), line("like", "", "5"), line("like", "a", "10"))),
		ordinaryWith(1, line("want", "3"), line("like", "", "5"), line("like", "a", "10"), line("like", "a", "9"), line("like", "b", "0"), line("like", "\xff", "0"), line("volume", "yes"))...)
	wantRefused(t, "a line twice, out of order", ordinary(), set("berth", "b", "mark", line("mark", "b"), line("mark", "a"), line("mark", "b")))
}

// Lines of SheetNew must stand in their order.
func TestApplyNewLinesOutOfOrder(t *testing.T) {
	wantRefused(t, "keys out of order", ordinary(), isNew("team", "b", line("room", "1"), line("copies", "1")))
	wantRefused(t, "words out of order", ordinary(), isNew("berth", "a", line("mark", "b"), line("mark", "a")))
	wantRefused(t, "words out of order", ordinary(), isNew("service", "a", line("like", "a", "9"), line("like", "a", "10")))
	wantRefused(t, "lines of a key apart", ordinary(), isNew("service", "a", line("like", "a", "0"), line("apart", "none"), line("like", "b", "0")))
	wantRefused(t, "the last one out of order", ordinary(), isNew("service", "a", append(slices.Clone(filledService[1:]), filledService[0])...))
}

func TestApplyUnsetsLines(t *testing.T) {
	wantApply(t, ordinary(), changes(unset("team", "a", "room")), ordinaryWith(2, line("copies", "1"))...)
	wantApply(t, ordinary(), changes(unset("team", "a", "copies")), ordinaryWith(2, line("room", "2"))...)
	wantApply(t, ordinary(), changes(unset("team", "a", "copies"), unset("team", "a", "room")), ordinaryWith(2)...)
	wantApply(t, ordinary(), changes(unset("berth", "b", "mark")), ordinaryWith(0, line("room", "5"))...)
	wantApply(t, ordinary(), changes(unset("service", "s", "like")), ordinaryWith(1, line("want", "3"), line("volume", "yes"))...)
	wantApply(t, ordinary(), changes(impl.SheetChange{What: impl.SheetUnset, Kind: "team", Name: "a", Key: "room", Lines: []impl.SheetLine{}}), ordinaryWith(2, line("copies", "1"))...)
}

func TestApplyOneAfterTheOther(t *testing.T) {
	room := line("room", "7")
	wantApply(t, ordinary(), changes(gone("team", "a"), isNew("team", "a", room)), ordinaryWith(2, room)...)
	wantApply(t, ordinary(), changes(isNew("team", "b"), gone("team", "b")), ordinary().Blocks...)
	wantApply(t, ordinary(), changes(isNew("team", "b"), set("team", "b", "room", room), unset("team", "b", "room"), gone("team", "b")), ordinary().Blocks...)
	wantApply(t, ordinary(), changes(set("team", "c", "room", room), set("team", "c", "copies", line("copies", "8")), set("team", "c", "room", line("room", "9"))),
		ordinaryWith(3, line("copies", "8"), line("room", "9"))...)
	wantCode(t, "gone twice", ordinary(), changes(gone("team", "a"), gone("team", "a")), 3)
	wantCode(t, "new twice", ordinary(), changes(isNew("team", "b"), isNew("team", "b")), 3)
	wantCode(t, "unset twice", ordinary(), changes(unset("team", "a", "room"), unset("team", "a", "room")), 3)
	wantCode(t, "set when gone", ordinary(), changes(set("team", "a", "room", room), gone("team", "a"), set("team", "a", "room", room)), 4)
	wantCode(t, "unset when gone", ordinary(), changes(gone("team", "a"), unset("team", "a", "room")), 3)
	wantCode(t, "set ahead of new", ordinary(), changes(set("team", "b", "room", room), isNew("team", "b")), 2)
	wantCode(t, "a wrong block that goes at once", ordinary(), changes(isNew("team", "b", line("room", "x")), gone("team", "b")), 2)
}

func TestApplyBlocksThatAreNotThere(t *testing.T) {
	for _, head := range [][2]string{{"team", "b"}, {"team", ""}, {"team", "A"}, {"berth", "a"}, {"service", "a"}, {"", "a"}, {"zone", "a"}, {"", ""}, {"Team", "a"}, {"team a", ""}, {"team", "\xff"}} {
		what := fmt.Sprintf("with %q, which is not there", head)
		wantRefused(t, "SheetGone "+what, ordinary(), gone(head[0], head[1]))
		wantRefused(t, "SheetSet "+what, ordinary(), set(head[0], head[1], "room", line("room", "1")))
		wantRefused(t, "SheetUnset "+what, ordinary(), unset(head[0], head[1], "room"))
		wantCode(t, "SheetGone in the empty sheet", impl.Sheet{}, changes(gone(head[0], head[1])), 2)
		wantCode(t, "SheetSet in the empty sheet", impl.Sheet{}, changes(set(head[0], head[1], "room", line("room", "1"))), 2)
		wantCode(t, "SheetUnset in the empty sheet", impl.Sheet{}, changes(unset(head[0], head[1], "room")), 2)
	}
}

func TestApplyNewBlocksThatAreThere(t *testing.T) {
	for _, b := range ordinary().Blocks {
		wantRefused(t, "SheetNew of a block that is there", ordinary(), isNew(b.Kind, b.Name))
		wantRefused(t, "SheetNew of a block that is there", ordinary(), isNew(b.Kind, b.Name, b.Lines...))
	}
	wantRefused(t, "SheetNew of a block that is there", ordinary(), isNew("team", "a", line("room", "9")))
}

func TestApplyWrongHeads(t *testing.T) {
	for _, kind := range []string{"", "Team", "teams", "zone", "end", "\xff"} {
		wantRefused(t, fmt.Sprintf("SheetNew of the kind %q", kind), ordinary(), isNew(kind, "x"))
	}
	for _, name := range []string{"", "A", "a b", "a_", "é", strings.Repeat("n", 21)} {
		wantRefused(t, fmt.Sprintf("SheetNew of the name %q", name), ordinary(), isNew("team", name))
	}
}

func TestApplyChangesThatAreNone(t *testing.T) {
	for _, what := range []int{0, 5, 6, -1, -4, math.MaxInt, math.MinInt} {
		for _, c := range changes(gone("team", "a"), isNew("team", "b"), set("team", "a", "room", line("room", "9")), unset("team", "a", "room"), impl.SheetChange{}) {
			c.What = what
			wantRefused(t, fmt.Sprintf("a change with What %d", what), ordinary(), c)
		}
	}
}

func TestApplyWhatShouldBeNothing(t *testing.T) {
	room := []impl.SheetLine{line("room", "2")}
	for what, c := range map[string]impl.SheetChange{
		"SheetGone with a key":             {What: impl.SheetGone, Kind: "team", Name: "a", Key: "room"},
		"SheetGone with no key's name":     {What: impl.SheetGone, Kind: "team", Name: "a", Key: "zip"},
		"SheetGone with lines":             {What: impl.SheetGone, Kind: "team", Name: "a", Lines: room},
		"SheetGone with its lines":         {What: impl.SheetGone, Kind: "team", Name: "a", Lines: ordinary().Blocks[2].Lines},
		"SheetGone with an empty line":     {What: impl.SheetGone, Kind: "team", Name: "a", Lines: []impl.SheetLine{{}}},
		"SheetGone with a key and lines":   {What: impl.SheetGone, Kind: "team", Name: "a", Key: "room", Lines: room},
		"SheetNew with a key":              {What: impl.SheetNew, Kind: "team", Name: "b", Key: "room"},
		"SheetNew with its lines' key":     {What: impl.SheetNew, Kind: "team", Name: "b", Key: "room", Lines: room},
		"SheetUnset with lines":            {What: impl.SheetUnset, Kind: "team", Name: "a", Key: "room", Lines: room},
		"SheetUnset with an empty line":    {What: impl.SheetUnset, Kind: "team", Name: "a", Key: "room", Lines: []impl.SheetLine{{}}},
		"SheetUnset with another's lines":  {What: impl.SheetUnset, Kind: "team", Name: "a", Key: "copies", Lines: room},
		"SheetUnset, without lines of it":  unset("team", "c", "room"),
		"SheetUnset of a default":          unset("berth", "b", "zone"),
		"SheetUnset, none of many":         unset("service", "s", "where"),
		"SheetUnset of no key":             unset("team", "a", ""),
		"SheetUnset of another kind's key": unset("team", "a", "zone"),
		"SheetUnset of none's key":         unset("team", "a", "zip"),
	} {
		wantRefused(t, what, ordinary(), c)
	}
}

func TestApplyWrongSets(t *testing.T) {
	room, copies := line("room", "9"), line("copies", "9")
	for what, c := range map[string]impl.SheetChange{
		"no line":                      set("team", "a", "room"),
		"no line of many":              set("berth", "b", "mark"),
		"an empty list":                {What: impl.SheetSet, Kind: "team", Name: "a", Key: "room", Lines: []impl.SheetLine{}},
		"no key":                       set("team", "a", "", room),
		"no key in the line":           set("team", "a", "room", line("", "9")),
		"no key at all":                set("team", "a", "", line("", "9")),
		"a line of another key":        set("team", "a", "room", copies),
		"a first line of another key":  set("team", "a", "room", copies, room),
		"a second line of another key": set("team", "a", "room", room, copies),
		"a third line of another key":  set("berth", "b", "mark", line("mark", "a"), line("mark", "b"), line("hold", "9")),
		"a key of another kind":        set("team", "a", "zone", line("zone", "z")),
		"a key of none":                set("team", "a", "zip", line("zip", "1")),
		"a key that is end":            set("team", "a", "end", line("end")),
		"a key in other letters":       set("team", "a", "Room", line("Room", "9")),
		"two lines":                    set("team", "a", "room", room, line("room", "8")),
		"a line twice":                 set("team", "a", "room", room, room),
		"a line of many twice":         set("berth", "b", "mark", line("mark", "a"), line("mark", "a")),
		"no word":                      set("team", "a", "room", line("room")),
		"two words":                    set("team", "a", "room", line("room", "1", "2")),
		"a word of another type":       set("team", "a", "room", line("room", "x")),
		"a number that is too great":   set("team", "a", "room", line("room", "1000001")),
		"a word that is too long":      set("service", "s", "where", line("where", strings.Repeat("x", 201))),
		"a later line that is wrong":   set("berth", "b", "mark", line("mark", "a"), line("mark", "B"), line("mark", "c")),
		"a signed 0":                   set("service", "s", "like", line("like", "x", "-0")),
	} {
		wantRefused(t, "SheetSet with "+what, ordinary(), c)
	}
}

func TestApplyWrongNewLines(t *testing.T) {
	for what, lines := range map[string][]impl.SheetLine{
		"a key of another kind":       {line("zone", "z")},
		"no key":                      {line("", "1")},
		"an empty line":               {{}},
		"a word of another type":      {line("room", "x")},
		"no word":                     {line("copies", "1"), line("room")},
		"two words":                   {line("room", "1", "2")},
		"a number that is too great":  {line("room", "1000001")},
		"a key twice":                 {line("room", "1"), line("room", "2")},
		"a line twice":                {line("room", "1"), line("room", "1")},
		"a second line that is wrong": {line("copies", "1"), line("room", "01")},
	} {
		wantRefused(t, "SheetNew with "+what, ordinary(), isNew("team", "b", lines...))
	}
	wantRefused(t, "SheetNew with a line of many twice", ordinary(), isNew("berth", "a", line("mark", "a"), line("mark", "a")))
}

func TestApplyMostBlocks(t *testing.T) {
	full := sheet(teams(0, 60)...)
	wantApply(t, sheet(teams(0, 59)...), changes(isNew("team", "t059")), teams(0, 60)...)
	wantApply(t, sheet(teams(1, 60)...), changes(isNew("team", "t000", line("room", "1"))), slices.Concat(teams(0, 1, line("room", "1")), teams(1, 60))...)
	wantApply(t, full, changes(gone("team", "t000"), isNew("team", "t060")), teams(1, 61)...)
	wantApply(t, full, changes(set("team", "t059", "room", line("room", "1"))), slices.Concat(teams(0, 59), teams(59, 60, line("room", "1")))...)
	wantCode(t, "one more", full, changes(isNew("team", "t060")), 2)
	wantCode(t, "one more, ahead of all", full, changes(isNew("berth", "a")), 2)
	wantCode(t, "two more", sheet(teams(0, 59)...), changes(isNew("team", "t059"), isNew("team", "t060")), 3)
	wantCode(t, "one more that goes at once", full, changes(isNew("team", "t060"), gone("team", "t060")), 2)
	wantCode(t, "one more ahead of one that goes", full, changes(isNew("team", "t060"), gone("team", "t000")), 2)
	var all []impl.SheetChange
	for _, b := range teams(0, 61) {
		all = append(all, isNew(b.Kind, b.Name))
	}
	wantApply(t, impl.Sheet{}, all[:60], teams(0, 60)...)
	wantCode(t, "61 in all", impl.Sheet{}, all, 62)
	slices.Reverse(all)
	wantApply(t, impl.Sheet{}, all[:60], teams(1, 61)...)
	wantCode(t, "61 in all, backwards", impl.Sheet{}, all, 62)
}

func TestApplyMostLinesOfAKey(t *testing.T) {
	var marks, likes []impl.SheetLine
	for i := range 11 {
		marks = append(marks, line("mark", fmt.Sprintf("m%02d", i)))
		likes = append(likes, line("like", "x", fmt.Sprint(10+i)))
	}
	room := line("room", "5")
	wantApply(t, ordinary(), changes(set("berth", "b", "mark", marks[:10]...)), ordinaryWith(0, append([]impl.SheetLine{room}, marks[:10]...)...)...)
	wantApply(t, ordinary(), changes(set("berth", "b", "mark", marks[:10]...), set("berth", "b", "mark", marks[1:]...)), ordinaryWith(0, append([]impl.SheetLine{room}, marks[1:]...)...)...)
	wantApply(t, ordinary(), changes(isNew("berth", "c", marks[:10]...)), slices.Insert(ordinary().Blocks, 1, block("berth", "c", marks[:10]...))...)
	wantApply(t, ordinary(), changes(set("service", "s", "like", likes[1:]...)), ordinaryWith(1, slices.Concat([]impl.SheetLine{line("want", "3")}, likes[1:], []impl.SheetLine{line("volume", "yes")})...)...)
	backwards := slices.Clone(marks)
	slices.Reverse(backwards)
	wantApply(t, ordinary(), changes(set("berth", "b", "mark", backwards[1:]...)), ordinaryWith(0, append([]impl.SheetLine{room}, marks[:10]...)...)...)
	wantRefused(t, "11 lines set", ordinary(), set("berth", "b", "mark", marks...))
	wantRefused(t, "11 lines set, backwards", ordinary(), set("berth", "b", "mark", backwards...))
	wantRefused(t, "11 lines set", ordinary(), set("service", "s", "like", likes...))
	wantRefused(t, "11 new lines", ordinary(), isNew("berth", "c", marks...))
	wantRefused(t, "11 new lines", ordinary(), isNew("service", "c", likes...))
}

// The answer may have no text, and is valid all the same.
func TestApplyLongText(t *testing.T) {
	where := line("where", strings.Repeat("\xff", 200))
	var blocks, bare []impl.SheetBlock
	var list []impl.SheetChange
	for i := range 60 {
		name := fmt.Sprintf("s%02d", i)
		blocks = append(blocks, block("service", name, where))
		bare = append(bare, block("service", name))
		list = append(list, set("service", name, "where", where))
	}
	wantNoText(t, blocks)
	wantApply(t, sheet(bare...), list, blocks...)
}

// A sheet that is not valid is told ahead of all changes, also of such as would mend it.
func TestApplyToWrongSheets(t *testing.T) {
	for what, wrong := range wrongSheets() {
		wantCode(t, what, wrong, nil, 1)
		wantCode(t, what, wrong, changes(isNew("berth", "zz")), 1)
		wantCode(t, what, wrong, changes(impl.SheetChange{}), 1)
		var all []impl.SheetChange
		for _, b := range wrong.Blocks {
			all = append(all, gone(b.Kind, b.Name))
		}
		wantCode(t, what, wrong, all, 1)
		wantPromise9(t, wrong, all)
	}
}

// A long list of changes, and one with far too many lines, are answered as well as a short one.
func TestApplyHuge(t *testing.T) {
	var list []impl.SheetChange
	for range 20000 {
		list = append(list, isNew("berth", "zz", line("mark", "m")), gone("berth", "zz"))
	}
	wantApply(t, ordinary(), list[:40], ordinary().Blocks...)
	if made, code := impl.SheetApply(ordinary(), list); code != 0 || tell(made) != tell(ordinary()) {
		t.Errorf("%d changes have the code %d", len(list), code)
	}
	wantCode(t, "a late fault", ordinary(), append(list, gone("berth", "zz")), 40002)
	lines := make([]impl.SheetLine, 100000)
	for i := range lines {
		lines[i] = line("mark", fmt.Sprintf("m%07d", len(lines)-i))
	}
	wantCode(t, "many lines set", ordinary(), changes(set("berth", "b", "mark", lines...)), 2)
	wantCode(t, "many new lines", ordinary(), changes(isNew("berth", "zz", lines...)), 2)
}

// modelApply is what chapter 7 says of SheetApply, with the whole sheet made anew and asked behind each change.
func modelApply(a impl.Sheet, list []impl.SheetChange) (impl.Sheet, int) {
	if !impl.SheetValid(a) {
		return impl.Sheet{}, 1
	}
	for i, c := range list {
		made, ok := modelChange(a, c)
		if !ok || !impl.SheetValid(made) {
			return impl.Sheet{}, 2 + i
		}
		a = made
	}
	return a, 0
}

func modelChange(s impl.Sheet, c impl.SheetChange) (impl.Sheet, bool) {
	var ofHead, made impl.Sheet
	for _, b := range s.Blocks {
		if b.Kind == c.Kind && b.Name == c.Name {
			ofHead.Blocks = append(ofHead.Blocks, b)
		} else {
			made.Blocks = append(made.Blocks, b)
		}
	}
	there, ofKey := len(ofHead.Blocks) == 1, linesWithKey(block("", "", c.Lines...), c.Key)
	ok := false
	switch c.What {
	case 1:
		ok = there && c.Key == "" && len(c.Lines) == 0
	case 2:
		ok = !there && c.Key == ""
		made.Blocks = append(made.Blocks, block(c.Kind, c.Name, c.Lines...))
	case 3:
		ok = there && len(ofKey) > 0 && len(ofKey) == len(c.Lines)
	case 4:
		ok = there && len(c.Lines) == 0 && len(linesWithKey(ofHead.Blocks[0], c.Key)) > 0
	}
	if ok && c.What > 2 {
		slices.SortFunc(ofKey, func(a, b impl.SheetLine) int { return slices.Compare(a.Words, b.Words) })
		b := block(c.Kind, c.Name)
		isKey := false
		for _, rule := range impl.SheetRules(c.Kind) {
			if rule.Key == c.Key {
				isKey = true
				b.Lines = append(b.Lines, ofKey...)
			} else {
				b.Lines = append(b.Lines, linesWithKey(ofHead.Blocks[0], rule.Key)...)
			}
		}
		ok = isKey
		made.Blocks = append(made.Blocks, b)
	}
	slices.SortFunc(made.Blocks, func(a, b impl.SheetBlock) int { return strings.Compare(a.Kind+" "+a.Name, b.Kind+" "+b.Name) })
	return made, ok
}

// randomChange is made so that it can often be made in this sheet.
func randomChange(random *rand.Rand, s impl.Sheet) impl.SheetChange {
	kind, name := kinds[random.Intn(len(kinds))], names[random.Intn(len(names))]
	what := 1 + random.Intn(4)
	if what != 2 && len(s.Blocks) > 0 && random.Intn(8) > 0 {
		b := s.Blocks[random.Intn(len(s.Blocks))]
		kind, name = b.Kind, b.Name
	}
	rules := impl.SheetRules(kind)
	key := rules[random.Intn(len(rules))].Key
	lines := randomLines(random, kind)
	c := impl.SheetChange{What: what, Kind: kind, Name: name}
	switch what {
	case 2:
		c.Lines = lines
	case 3:
		c.Key, c.Lines = key, linesWithKey(block("", "", lines...), key)
		random.Shuffle(len(c.Lines), func(i, j int) { c.Lines[i], c.Lines[j] = c.Lines[j], c.Lines[i] })
	case 4:
		c.Key = key
	}
	if random.Intn(8) == 0 {
		spoil(random, &c, key, lines)
	}
	return c
}

func spoil(random *rand.Rand, c *impl.SheetChange, key string, lines []impl.SheetLine) {
	switch random.Intn(8) {
	case 0:
		c.What = random.Intn(7) - 1
	case 1:
		c.Key = []string{"", key, "zip"}[random.Intn(3)]
	case 2:
		c.Lines = lines
	case 3:
		c.Lines = append(c.Lines, lines...)
	case 4:
		slices.Reverse(c.Lines)
	case 5:
		c.Kind = []string{"", "zone", "team", "berth", "service"}[random.Intn(5)]
	case 6:
		c.Name = []string{"", "A", "a", "end"}[random.Intn(4)]
	case 7:
		c.Lines = append(c.Lines, line(key, "1"))
	}
}

func TestApplyRandomChanges(t *testing.T) {
	random := rand.New(rand.NewSource(12))
	made, refused := map[int]int{}, map[int]int{}
	for range 3000 {
		a := withDefaults(random, randomSheet(random))
		var list []impl.SheetChange
		for now := a; len(list) < 6 && random.Intn(6) > 0; {
			c := randomChange(random, now)
			list = append(list, c)
			if next, code := modelApply(now, list[len(list)-1:]); code == 0 {
				now = next
				made[c.What]++
			} else {
				refused[c.What]++
			}
		}
		want, code := modelApply(a, list)
		if code == 0 {
			wantApply(t, a, list, want.Blocks...)
		} else {
			wantCode(t, "random changes", a, list, code)
		}
		wantPromise9(t, a, list)
		if t.Failed() {
			t.Fatalf("of\n%sthe changes\n%s", tell(a), tellChanges(list))
		}
	}
	for what := 1; what <= 4; what++ {
		if made[what] < 100 || refused[what] < 100 {
			t.Errorf("of the random changes with What %d only %d are made and %d refused", what, made[what], refused[what])
		}
	}
}

// roomyChanges are the same changes, with spare room behind each of their lists, written full.
func roomyChanges(list []impl.SheetChange) []impl.SheetChange {
	var given []impl.SheetChange
	for i, b := range roomy(linesAsSheet(list)).Blocks {
		c := list[i]
		c.Lines = b.Lines
		given = append(given, c)
	}
	return append(given, gone("spare", "spare"), gone("spare", "spare"))[:len(given)]
}

func tellChangesWithRoom(list []impl.SheetChange) string {
	told := ""
	for _, c := range list[:cap(list)] {
		told += fmt.Sprintf("%d %q ", c.What, c.Key) + tellWithRoom(sheet(block(c.Kind, c.Name, c.Lines...)))
	}
	return told
}

func wantNewApplied(t *testing.T, a impl.Sheet, list []impl.SheetChange) {
	t.Helper()
	given := roomyChanges(list)
	told := tellChangesWithRoom(given)
	wantNewMemory(t, func(args ...impl.Sheet) impl.Sheet {
		made, _ := impl.SheetApply(args[0], given)
		return made
	}, a)
	if now := tellChangesWithRoom(given); now != told {
		t.Errorf("the changes were\n%sand are\n%s", told, now)
	}
}

func TestApplyAnswersAreNew(t *testing.T) {
	random := rand.New(rand.NewSource(13))
	for range 300 {
		a, b := withDefaults(random, randomSheet(random)), withDefaults(random, randomSheet(random))
		list := modelDiff(a, b)
		wantNewApplied(t, a, list)
		wantNewApplied(t, a, nil)
		wantNewApplied(t, b, list)
		wantNewApplied(t, a, append(list, impl.SheetChange{}))
		if t.Failed() {
			return
		}
	}
	wantNewApplied(t, ordinary(), changes(set("berth", "b", "mark", line("mark", "c"), line("mark", "b"), line("mark", "a"))))
	wantNewApplied(t, ordinary(), changes(set("berth", "b", "mark", line("mark", "c"), line("mark", "b"), line("mark", "B"))))
	for what, wrong := range wrongSheets() {
		wantNewApplied(t, wrong, changes(isNew("team", "b", line("room", "1"))))
		if t.Failed() {
			t.Fatalf("with %s", what)
		}
	}
}

// Arguments may share lists with each other; the lists of the answer do not.
func TestApplyArgumentsThatShare(t *testing.T) {
	lines := []impl.SheetLine{line("room", "5"), line("mark", "m"), line("mark", "n")}
	told := fmt.Sprintf("%q", lines)
	a := sheet(block("berth", "b", lines...), block("berth", "c", lines...))
	list := changes(isNew("berth", "d", lines...), isNew("berth", "e", lines...), set("berth", "b", "mark", lines[2], lines[1]), set("berth", "c", "mark", lines[1:]...))
	wantApply(t, a, list, block("berth", "b", lines...), block("berth", "c", lines...), block("berth", "d", lines...), block("berth", "e", lines...))
	made, _ := impl.SheetApply(a, list)
	wantOwnLists(t, made)
	if now := fmt.Sprintf("%q", lines); now != told {
		t.Errorf("the lines were %s and are %s", told, now)
	}
	apart := impl.SheetDiff(impl.Sheet{}, a)
	wantOwnLists(t, linesAsSheet(apart))
	if now := fmt.Sprintf("%q", lines); now != told {
		t.Errorf("the lines were %s and are %s", told, now)
	}
}
