// Package impl: sheets that say what is wanted.
package impl

import "strings"

// Limits of sheets.
const (
	SheetMaxText   = 20000
	SheetMaxLines  = 400
	SheetMaxWord   = 200
	SheetMaxWords  = 8
	SheetMaxName   = 20
	SheetMaxBlocks = 60
	SheetMaxMany   = 10
	SheetMaxNumber = 1000000
)

const hexDigits = "0123456789abcdef"

// SheetCut is the words of a line.
type SheetCut struct {
	Words []string
	Bad   bool
}

// SheetWords cuts a line into words.
func SheetWords(line string) SheetCut {
	var words []string
	rest := strings.TrimLeft(line, " ")
	for rest != "" && rest[0] != '#' {
		word, behind, ok := scannerOf(rest).scan(rest)
		if !ok || !endsWord(behind) || len(word) > SheetMaxWord || len(words) == SheetMaxWords {
			return SheetCut{Bad: true}
		}
		words = append(words, word)
		rest = strings.TrimLeft(behind, " ")
	}
	return SheetCut{Words: words}
}

// SheetWord writes a word.
func SheetWord(word string) string {
	if isBareWord(word) {
		return strings.Clone(word)
	}
	var text strings.Builder
	text.WriteByte('"')
	for i := range len(word) {
		writeQuoted(&text, word[i])
	}
	text.WriteByte('"')
	return text.String()
}

// scanner takes the word off the beginning of a text that is not empty: the
// word, what stands behind it, and whether there is such a word at all.
type scanner interface {
	scan(text string) (word string, behind string, ok bool)
}

type bareScanner struct{}

type quoteScanner struct{}

func scannerOf(text string) scanner {
	if text[0] == '"' {
		return quoteScanner{}
	}
	return bareScanner{}
}

// The word is cloned so that a short answer does not hold on to a long line.
func (bareScanner) scan(text string) (string, string, bool) {
	size := 0
	for size < len(text) && isBare(text[size]) {
		size++
	}
	return strings.Clone(text[:size]), text[size:], size > 0
}

func (quoteScanner) scan(text string) (string, string, bool) {
	var word []byte
	at := 1
	for at < len(text) && text[at] != '"' {
		value, size := quotedByte(text[at:])
		if size == 0 {
			return "", "", false
		}
		word = append(word, value)
		at += size
	}
	if at >= len(text) {
		return "", "", false
	}
	return string(word), text[at+1:], true
}

// quotedByte reads the byte that the beginning of a text in quotes stands for,
// and how many bytes it is written with: 0 if it is not written rightly.
func quotedByte(text string) (byte, int) {
	if isPlain(text[0]) {
		return text[0], 1
	}
	if text[0] != '\\' || len(text) < 3 {
		return 0, 0
	}
	high := strings.IndexByte(hexDigits, text[1])
	low := strings.IndexByte(hexDigits, text[2])
	if high < 0 || low < 0 {
		return 0, 0
	}
	return byte(high*16 + low), 3
}

func writeQuoted(text *strings.Builder, b byte) {
	if isPlain(b) {
		text.WriteByte(b)
		return
	}
	text.WriteByte('\\')
	text.WriteByte(hexDigits[b/16])
	text.WriteByte(hexDigits[b%16])
}

// isPlain says whether a byte stands for itself in quotes.
func isPlain(b byte) bool {
	return b >= 32 && b <= 126 && b != '"' && b != '\\'
}

// isBare says whether a byte may stand in a bare word.
func isBare(b byte) bool {
	return isPlain(b) && b != ' ' && b != '#'
}

func isBareWord(word string) bool {
	for i := range len(word) {
		if !isBare(word[i]) {
			return false
		}
	}
	return word != ""
}

// endsWord says whether a word may end ahead of this text.
func endsWord(behind string) bool {
	return behind == "" || behind[0] == ' ' || behind[0] == '#'
}
