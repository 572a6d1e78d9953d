package tests

import (
	"fmt"
	"slices"
	"testing"

	"loop.example/wharfsheet/impl"
)

// roomy is the same sheet, with spare room behind each of its lists, written full.
func roomy(s impl.Sheet) impl.Sheet {
	blocks := []impl.SheetBlock{}
	for _, b := range s.Blocks {
		lines := []impl.SheetLine{}
		for _, l := range b.Lines {
			words := append(slices.Clone(l.Words), "spare", "spare")
			lines = append(lines, line(l.Key, words[:len(l.Words)]...))
		}
		lines = append(lines, line("spare", "spare"), line("spare", "spare"))
		blocks = append(blocks, block(b.Kind, b.Name, lines[:len(b.Lines)]...))
	}
	blocks = append(blocks, block("spare", "spare"), block("spare", "spare"))
	return sheet(blocks[:len(s.Blocks)]...)
}

// tellWithRoom tells a sheet and the spare room behind each of its lists.
func tellWithRoom(s impl.Sheet) string {
	told := ""
	for _, b := range s.Blocks[:cap(s.Blocks)] {
		told += fmt.Sprintf("%q %q:\n", b.Kind, b.Name)
		for _, l := range b.Lines[:cap(b.Lines)] {
			told += fmt.Sprintf("  %q %q\n", l.Key, l.Words[:cap(l.Words)])
		}
	}
	return told
}

// fill writes a mark all over a list, its spare room included.
func fill[T any](list []T, mark T) {
	list = list[:cap(list)]
	for i := range list {
		list[i] = mark
	}
}

// wantOwnLists writes a mark of its own all over every list of an answer: one that shares memory with another shows the other's mark.
func wantOwnLists(t *testing.T, s impl.Sheet) {
	t.Helper()
	var words [][]string
	var lines [][]impl.SheetLine
	for _, b := range s.Blocks {
		lines = append(lines, b.Lines)
		for _, l := range b.Lines {
			words = append(words, l.Words)
		}
	}
	for i, list := range words {
		fill(list, fmt.Sprint(i))
	}
	for i, list := range words {
		if slices.ContainsFunc(list[:cap(list)], func(word string) bool { return word != fmt.Sprint(i) }) {
			t.Errorf("the words of line %d share memory: %q", i, list[:cap(list)])
		}
	}
	for i, list := range lines {
		fill(list, line(fmt.Sprint(i)))
	}
	for i, list := range lines {
		if slices.ContainsFunc(list[:cap(list)], func(l impl.SheetLine) bool { return l.Key != fmt.Sprint(i) }) {
			t.Errorf("the lines of block %d share memory: %q", i, list[:cap(list)])
		}
	}
	fill(s.Blocks, block("mark", "mark"))
}

// wantNewMemory calls a function with arguments that have spare room, and looks whether the arguments, and what it answers of them later, stay as they are once its answer is written full.
func wantNewMemory(t *testing.T, answer func(args ...impl.Sheet) impl.Sheet, args ...impl.Sheet) {
	t.Helper()
	told, given := []string{}, []impl.Sheet{}
	for _, s := range args {
		given = append(given, roomy(s))
		told = append(told, tellWithRoom(given[len(given)-1]))
	}
	want := tell(answer(given...))
	wantOwnLists(t, answer(given...))
	for i, s := range given {
		if now := tellWithRoom(s); now != told[i] {
			t.Errorf("argument %d was\n%sand is\n%s", i, told[i], now)
		}
	}
	if again := tell(answer(given...)); again != want {
		t.Errorf("the answer was\n%sand is\n%s", want, again)
	}
}
