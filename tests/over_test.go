package tests

import (
	"fmt"
	"math/rand"
	"slices"
	"strings"
	"testing"

	"loop.example/wharfsheet/impl"
)

func wantOver(t *testing.T, under impl.Sheet, over impl.Sheet, blocks ...impl.SheetBlock) {
	t.Helper()
	wantSheet(t, "SheetOver", impl.SheetOver(under, over), blocks...)
	wantPromise6(t, under, over, impl.SheetOver(over, under))
	wantPromise7(t, under, over)
}

// wantPromise6 takes three sheets that have not too many blocks in all.
func wantPromise6(t *testing.T, a impl.Sheet, b impl.Sheet, c impl.Sheet) {
	t.Helper()
	for _, s := range []impl.Sheet{a, b, c} {
		wantSheet(t, "a sheet over itself", impl.SheetOver(s, s), s.Blocks...)
		wantSheet(t, "a sheet over the empty one", impl.SheetOver(impl.Sheet{}, s), s.Blocks...)
		wantSheet(t, "a sheet under the empty one", impl.SheetOver(s, impl.Sheet{}), s.Blocks...)
	}
	wantSheet(t, "of three the last two laid first", impl.SheetOver(a, impl.SheetOver(b, c)), impl.SheetOver(impl.SheetOver(a, b), c).Blocks...)
}

// wantPromise7 takes a first sheet that is valid: filled, one that is not is the empty one, over which the second is itself.
func wantPromise7(t *testing.T, a impl.Sheet, b impl.Sheet) {
	t.Helper()
	wantSheet(t, "SheetFill of SheetOver with the under one filled", impl.SheetFill(impl.SheetOver(impl.SheetFill(a), b)), impl.SheetFill(impl.SheetOver(a, b)).Blocks...)
}

func TestOverEmptySheets(t *testing.T) {
	wantOver(t, impl.Sheet{}, impl.Sheet{})
	wantOver(t, impl.Sheet{Blocks: []impl.SheetBlock{}}, impl.Sheet{})
	wantOver(t, sheet(block("team", "a", line("room", "1"))), impl.Sheet{}, block("team", "a", line("room", "1")))
	wantOver(t, impl.Sheet{}, sheet(block("team", "a", line("room", "1"))), block("team", "a", line("room", "1")))
	wantOver(t, sheet(block("team", "a")), sheet(block("team", "a")), block("team", "a"))
}

func TestOverBlocksOfOneAlone(t *testing.T) {
	a := sheet(block("berth", "b", line("mark", "m")), block("team", "b", line("room", "1")))
	b := sheet(block("berth", "a"), block("service", "b", line("want", "2")), block("team", "a"), block("team", "c", line("copies", "3")))
	want := []impl.SheetBlock{
		block("berth", "a"), block("berth", "b", line("mark", "m")), block("service", "b", line("want", "2")),
		block("team", "a"), block("team", "b", line("room", "1")), block("team", "c", line("copies", "3")),
	}
	wantOver(t, a, b, want...)
	wantOver(t, b, a, want...)
}

// Neither the kind nor the name alone makes two blocks one.
func TestOverBlocksThatAreNotOne(t *testing.T) {
	wantOver(t, sheet(block("berth", "a", line("room", "1"))), sheet(block("team", "a", line("room", "2"))), block("berth", "a", line("room", "1")), block("team", "a", line("room", "2")))
	wantOver(t, sheet(block("team", "a", line("room", "1"))), sheet(block("team", "b", line("room", "2"))), block("team", "a", line("room", "1")), block("team", "b", line("room", "2")))
}

func TestOverLinesOfOneKey(t *testing.T) {
	team := func(lines ...impl.SheetLine) impl.Sheet { return sheet(block("team", "a", lines...)) }
	wantOver(t, team(line("room", "1")), team(line("room", "2")), team(line("room", "2")).Blocks...)
	wantOver(t, team(line("room", "2")), team(line("room", "1")), team(line("room", "1")).Blocks...)
	wantOver(t, team(line("room", "1")), team(), team(line("room", "1")).Blocks...)
	wantOver(t, team(), team(line("room", "1")), team(line("room", "1")).Blocks...)
	wantOver(t, team(line("room", "1")), team(line("copies", "2")), team(line("copies", "2"), line("room", "1")).Blocks...)
	wantOver(t, team(line("copies", "2")), team(line("room", "1")), team(line("copies", "2"), line("room", "1")).Blocks...)
	wantOver(t, team(line("copies", "1"), line("room", "2")), team(line("copies", "3"), line("room", "4")), team(line("copies", "3"), line("room", "4")).Blocks...)
	wantOver(t, team(line("copies", "1"), line("room", "2")), team(line("room", "4")), team(line("copies", "1"), line("room", "4")).Blocks...)
}

// What is said counts, be it the Default: it is another thing than what is left out.
func TestOverDefaults(t *testing.T) {
	team := func(lines ...impl.SheetLine) impl.Sheet { return sheet(block("team", "a", lines...)) }
	wantOver(t, team(line("room", "1")), team(line("room", "1000")), team(line("room", "1000")).Blocks...)
	wantOver(t, team(line("room", "1000")), team(line("room", "1")), team(line("room", "1")).Blocks...)
	wantOver(t, team(line("room", "1000")), team(), team(line("room", "1000")).Blocks...)
	wantOver(t, team(line("copies", "1")), team(), team(line("copies", "1")).Blocks...)
}

func TestOverKeysThatAreMany(t *testing.T) {
	berth := func(lines ...impl.SheetLine) impl.Sheet { return sheet(block("berth", "b", lines...)) }
	wantOver(t, berth(line("mark", "a"), line("mark", "c")), berth(line("mark", "b")), berth(line("mark", "b")).Blocks...)
	wantOver(t, berth(line("mark", "b")), berth(line("mark", "a"), line("mark", "c")), berth(line("mark", "a"), line("mark", "c")).Blocks...)
	wantOver(t, berth(line("mark", "a"), line("mark", "b")), berth(line("mark", "b"), line("mark", "c")), berth(line("mark", "b"), line("mark", "c")).Blocks...)
	wantOver(t, berth(line("mark", "a"), line("mark", "b")), berth(line("room", "1")), berth(line("room", "1"), line("mark", "a"), line("mark", "b")).Blocks...)
	wantOver(t, berth(line("room", "1")), berth(line("mark", "a"), line("mark", "b")), berth(line("room", "1"), line("mark", "a"), line("mark", "b")).Blocks...)
	var one, other []impl.SheetLine
	for i := range 10 {
		one = append(one, line("mark", fmt.Sprintf("m%d", i)))
		other = append(other, line("mark", fmt.Sprintf("n%d", i)))
	}
	wantOver(t, berth(one...), berth(other...), berth(other...).Blocks...)
	wantOver(t, berth(other...), berth(one...), berth(one...).Blocks...)
	wantOver(t, berth(other...), berth(one[0]), berth(one[0]).Blocks...)
	wantOver(t,
		sheet(block("service", "s", line("image", "1"), line("like", "x", "1"), line("like", "y", "2"), line("pace", "1", "2", "3"))),
		sheet(block("service", "s", line("want", "3"), line("like", "x", "0"), line("apart", "zone"))),
		block("service", "s", line("image", "1"), line("want", "3"), line("like", "x", "0"), line("apart", "zone"), line("pace", "1", "2", "3")))
}

// teams are blocks from one number up to another one.
func teams(from int, to int, lines ...impl.SheetLine) []impl.SheetBlock {
	var blocks []impl.SheetBlock
	for i := from; i < to; i++ {
		blocks = append(blocks, block("team", fmt.Sprintf("t%03d", i), lines...))
	}
	return blocks
}

func wantNothingOver(t *testing.T, what string, under impl.Sheet, over impl.Sheet) {
	t.Helper()
	wantSheet(t, "SheetOver of "+what, impl.SheetOver(under, over))
}

func TestOverMostBlocks(t *testing.T) {
	one, other := line("room", "1"), line("room", "2")
	wantOver(t, sheet(teams(0, 30)...), sheet(teams(30, 60)...), teams(0, 60)...)
	wantOver(t, sheet(teams(30, 60)...), sheet(teams(0, 30)...), teams(0, 60)...)
	wantOver(t, sheet(teams(0, 59)...), sheet(teams(59, 60)...), teams(0, 60)...)
	wantOver(t, sheet(teams(0, 60, one)...), sheet(teams(0, 60, other)...), teams(0, 60, other)...)
	wantOver(t, sheet(teams(0, 50, one)...), sheet(teams(10, 60, other)...), slices.Concat(teams(0, 10, one), teams(10, 60, other))...)
	wantOver(t, sheet(teams(0, 60)...), impl.Sheet{}, teams(0, 60)...)
	wantNothingOver(t, "61 blocks", sheet(teams(0, 31)...), sheet(teams(31, 61)...))
	wantNothingOver(t, "61 blocks", sheet(teams(0, 60)...), sheet(teams(60, 61)...))
	wantNothingOver(t, "61 blocks", sheet(teams(60, 61)...), sheet(teams(0, 60)...))
	wantNothingOver(t, "61 blocks", sheet(teams(0, 50)...), sheet(teams(10, 61)...))
	wantNothingOver(t, "61 blocks of two kinds", sheet(block("berth", "t000")), sheet(teams(0, 60)...))
	wantNothingOver(t, "120 blocks", sheet(teams(0, 60)...), sheet(teams(60, 120)...))
	wantPromise6(t, sheet(teams(0, 20, one)...), sheet(teams(10, 40, other)...), sheet(teams(30, 60)...))
}

// What is laid over may have no text, and is valid all the same.
func TestOverLongText(t *testing.T) {
	where := line("where", strings.Repeat("\xff", 200))
	var blocks []impl.SheetBlock
	for i := range 60 {
		blocks = append(blocks, block("service", fmt.Sprintf("s%02d", i), where))
	}
	wantOver(t, sheet(blocks[:30]...), sheet(blocks[30:]...), blocks...)
	wantNoText(t, blocks)
}

func TestOverWrongSheets(t *testing.T) {
	right := []impl.Sheet{
		{},
		sheet(block("team", "z")),
		sheet(block("berth", "b", line("room", "1"), line("mark", "m")), block("team", "a", line("copies", "1"), line("room", "1"))),
	}
	for what, wrong := range wrongSheets() {
		for _, s := range right {
			wantNothingOver(t, what+" as the first", wrong, s)
			wantNothingOver(t, what+" as the second", s, wrong)
		}
		wantNothingOver(t, what+" as both", wrong, wrong)
		wantPromise7(t, right[2], wrong)
	}
}

// modelOver is what chapter 6 says, block by block and key by key.
func modelOver(under impl.Sheet, over impl.Sheet) impl.Sheet {
	var laid impl.Sheet
	for _, kind := range []string{"berth", "service", "team"} {
		for _, name := range names {
			here := func(b impl.SheetBlock) bool { return b.Kind == kind && b.Name == name }
			i, j := slices.IndexFunc(under.Blocks, here), slices.IndexFunc(over.Blocks, here)
			if i < 0 && j < 0 {
				continue
			}
			b := block(kind, name)
			for _, rule := range impl.SheetRules(kind) {
				var lines []impl.SheetLine
				if j >= 0 {
					lines = linesWithKey(over.Blocks[j], rule.Key)
				}
				if i >= 0 && len(lines) == 0 {
					lines = linesWithKey(under.Blocks[i], rule.Key)
				}
				b.Lines = append(b.Lines, lines...)
			}
			laid.Blocks = append(laid.Blocks, b)
		}
	}
	return laid
}

func TestOverRandomSheets(t *testing.T) {
	random := rand.New(rand.NewSource(8))
	for range 1000 {
		a, b, c := withDefaults(random, randomSheet(random)), withDefaults(random, randomSheet(random)), withDefaults(random, randomSheet(random))
		wantSheet(t, "SheetOver", impl.SheetOver(a, b), modelOver(a, b).Blocks...)
		wantPromise6(t, a, b, c)
		wantPromise7(t, a, b)
		if t.Failed() {
			return
		}
	}
}

func TestOverAnswersAreNew(t *testing.T) {
	lay := func(args ...impl.Sheet) impl.Sheet { return impl.SheetOver(args[0], args[1]) }
	layOverItself := func(args ...impl.Sheet) impl.Sheet { return impl.SheetOver(args[0], args[0]) }
	random := rand.New(rand.NewSource(9))
	for range 300 {
		a, b := withDefaults(random, randomSheet(random)), withDefaults(random, randomSheet(random))
		wantNewMemory(t, lay, a, b)
		wantNewMemory(t, lay, a, impl.Sheet{})
		wantNewMemory(t, lay, impl.Sheet{}, a)
		wantNewMemory(t, layOverItself, a)
		if t.Failed() {
			return
		}
	}
	for what, wrong := range wrongSheets() {
		wantNewMemory(t, lay, wrong, sheet(block("team", "a", line("room", "1"))))
		wantNewMemory(t, lay, sheet(block("team", "a", line("room", "1"))), wrong)
		if t.Failed() {
			t.Fatalf("with %s", what)
		}
	}
}
