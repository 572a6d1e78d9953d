package tests

import (
	"fmt"
	"strings"
	"testing"

	"loop.example/wharfsheet/impl"
)

func wantValid(t *testing.T, want bool, blocks ...impl.SheetBlock) {
	t.Helper()
	s := sheet(blocks...)
	told := tell(s)
	if impl.SheetValid(s) != want {
		t.Errorf("SheetValid is %v of\n%.500s", !want, told)
	}
	if text := impl.SheetPrint(s); !want && text != "" {
		t.Errorf("a sheet that is not valid is printed as %.500q:\n%.500s", text, told)
	}
	if tell(s) != told {
		t.Errorf("SheetValid or SheetPrint wrote into its sheet:\n%.500s", told)
	}
}

// wantLines asks whether a block of this kind may have these lines, alone and behind another block.
func wantLines(t *testing.T, want bool, kind string, lines ...impl.SheetLine) {
	t.Helper()
	wantValid(t, want, block(kind, "b", lines...))
	wantValid(t, want, block(kind, "a"), block(kind, "b", lines...), block(kind, "c"))
}

func TestValidOrdinary(t *testing.T) {
	wantValid(t, true)
	if !impl.SheetValid(impl.Sheet{Blocks: []impl.SheetBlock{}}) {
		t.Errorf("a sheet with an empty list of blocks is not valid")
	}
	wantValid(t, true, block("team", "core"))
	wantValid(t, true, block("berth", "a", line("mark", "m")), block("service", "a", line("where", "")), block("team", "a", line("room", "0")))
	wantValid(t, true, impl.SheetBlock{Kind: "team", Name: "a", Lines: []impl.SheetLine{}})
}

func TestValidOrderOfBlocks(t *testing.T) {
	wantValid(t, true, block("berth", "b"), block("service", "a"), block("service", "b"), block("team", "a"))
	wantValid(t, true, block("team", "-"), block("team", "0"), block("team", "a"), block("team", "a-"), block("team", "aa"), block("team", "b"))
	wantValid(t, false, block("team", "b"), block("team", "a"))
	wantValid(t, false, block("team", "ab"), block("team", "a"))
	wantValid(t, false, block("team", "a"), block("berth", "b"))
	wantValid(t, false, block("team", "a"), block("service", "a"))
	wantValid(t, false, block("service", "a"), block("berth", "a"))
	wantValid(t, false, block("team", "a"), block("team", "a"))
	wantValid(t, false, block("team", "a"), block("team", "a", line("room", "1")))
	wantValid(t, false, block("team", "a"), block("team", "b"), block("team", "a"))
	wantValid(t, false, block("berth", "a"), block("team", "c"), block("team", "b"))
}

func TestValidKindsAndNames(t *testing.T) {
	for _, kind := range []string{"", "Team", "teams", "zone", "end", "room", "\xff"} {
		wantValid(t, false, block(kind, "a"))
		wantValid(t, false, block("berth", "a"), block(kind, "a"))
	}
	for _, name := range []string{"", "A", "a b", "a_", "é", "a\n", strings.Repeat("a", 21)} {
		wantValid(t, false, block("team", name))
		wantValid(t, false, block("berth", "a"), block("team", name))
	}
	for _, name := range []string{"a", "-", "0", "end", strings.Repeat("a", 20)} {
		wantValid(t, true, block("team", name))
	}
}

func TestValidLinesFit(t *testing.T) {
	wantLines(t, true, "team", line("room", "1"))
	wantLines(t, false, "team", line("zone", "z"))
	wantLines(t, false, "team", line("", "1"))
	wantLines(t, false, "team", line("end"))
	wantLines(t, false, "team", line("Room", "1"))
	wantLines(t, false, "team", line("room"))
	wantLines(t, false, "team", line("room", "1", "2"))
	wantLines(t, false, "team", line("room", "01"))
	wantLines(t, false, "team", line("room", "1000001"))
	wantLines(t, false, "team", line("copies", "1"), line("room", "x"))
	wantLines(t, false, "berth", line("mark", "a"), line("mark", "a b"))
	wantLines(t, true, "service", line("where", strings.Repeat("\x00", 200)))
	wantLines(t, false, "service", line("where", strings.Repeat("x", 201)))
	wantLines(t, false, "service", line("like", "a"))
	wantLines(t, false, "service", line("like", "a", "-0"))
	wantLines(t, false, "service", line("apart", "yes"))
	wantLines(t, false, "service", line("volume", "none"))
}

func TestValidOrderOfLines(t *testing.T) {
	wantLines(t, true, "team", line("copies", "9"), line("room", "1"))
	wantLines(t, false, "team", line("room", "1"), line("copies", "9"))
	wantLines(t, true, "service", line("team", "z"), line("image", "1"), line("apart", "none"))
	wantLines(t, false, "service", line("apart", "none"), line("image", "1"), line("team", "z"))
	wantLines(t, true, "berth", line("zone", "z"), line("room", "1"), line("mark", "a"))
	wantLines(t, false, "berth", line("mark", "a"), line("zone", "z"))
	wantLines(t, false, "berth", line("mark", "b"), line("mark", "a"))
	wantLines(t, false, "berth", line("mark", "ab"), line("mark", "a"))
	wantLines(t, true, "berth", line("mark", "-"), line("mark", "0"), line("mark", "a"), line("mark", "ab"), line("mark", "b"))
	wantLines(t, true, "service", line("like", "", "5"), line("like", "a", "-1"), line("like", "a", "10"), line("like", "a", "9"), line("like", "b", "0"), line("like", "\xff", "0"))
	wantLines(t, false, "service", line("like", "a", "9"), line("like", "a", "10"))
	wantLines(t, false, "service", line("like", "b", "0"), line("like", "a", "1"))
	wantLines(t, false, "service", line("like", "a", "0"), line("like", "", "0"))
	wantLines(t, false, "service", line("like", "a", "0"), line("apart", "none"), line("like", "b", "0"))
}

func TestValidLinesSaidTwice(t *testing.T) {
	wantLines(t, false, "team", line("room", "1"), line("room", "1"))
	wantLines(t, false, "team", line("room", "1"), line("room", "2"))
	wantLines(t, false, "team", line("copies", "1"), line("room", "1"), line("room", "2"))
	wantLines(t, false, "service", line("team", "a"), line("team", "b"))
	wantLines(t, false, "berth", line("mark", "a"), line("mark", "a"))
	wantLines(t, false, "service", line("like", "a", "1"), line("like", "a", "1"))
	wantLines(t, true, "service", line("like", "a", "1"), line("like", "a", "2"))
}

func TestValidMostBlocks(t *testing.T) {
	var blocks []impl.SheetBlock
	for i := range 61 {
		blocks = append(blocks, block("team", fmt.Sprintf("t%02d", i)))
	}
	wantValid(t, true, blocks[:60]...)
	wantValid(t, true, blocks[1:]...)
	wantValid(t, false, blocks...)
}

func TestValidMostLinesOfAKey(t *testing.T) {
	var marks, likes []impl.SheetLine
	for i := range 11 {
		marks = append(marks, line("mark", fmt.Sprintf("m%02d", i)))
		likes = append(likes, line("like", "x", fmt.Sprint(10+i)))
	}
	wantLines(t, true, "berth", marks[:10]...)
	wantLines(t, false, "berth", marks...)
	wantLines(t, true, "service", likes[:10]...)
	wantLines(t, false, "service", likes...)
	wantValid(t, true, block("berth", "a", marks[:10]...), block("berth", "b", marks[1:]...), block("service", "a", likes[:10]...))
}

// A sheet of far too many blocks or lines is answered as quickly as a small one.
func TestValidHuge(t *testing.T) {
	blocks := make([]impl.SheetBlock, 300000)
	for i := range blocks {
		blocks[i] = block("team", fmt.Sprintf("t%07d", i))
	}
	if impl.SheetValid(sheet(blocks...)) {
		t.Errorf("a sheet of %d blocks is valid", len(blocks))
	}
	lines := make([]impl.SheetLine, 300000)
	for i := range lines {
		lines[i] = line("mark", fmt.Sprintf("m%07d", i))
	}
	if impl.SheetValid(sheet(block("berth", "b", lines...))) {
		t.Errorf("a block of %d lines is valid", len(lines))
	}
}
