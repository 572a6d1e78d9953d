package tests

import (
	"fmt"
	"slices"
	"strings"
	"testing"

	"loop.example/wharfsheet/impl"
)

var kinds = []string{"team", "berth", "service"}

// rulesTold is the document's table: the types by their numbers, then the default words by SheetWord.
var rulesTold = map[string][]string{
	"team": {
		"copies [1] once [100]",
		"room [1] once [1000]",
	},
	"berth": {
		"zone [3] once [z]",
		"room [1] once [100]",
		"hold [1] once [100]",
		"mark [3] many []",
	},
	"service": {
		"team [3] once [core]",
		"image [1] once [1]",
		"want [1] once [1]",
		"down [1] once [1]",
		"over [1] once [0]",
		"needs [1 1] once [1 1]",
		`where [4] once [""]`,
		"like [4 2] many []",
		"apart [6] once [none]",
		"volume [5] once [no]",
		"follow [1 1 1] once [0 0 0]",
		"pace [1 1 1] once [0 0 0]",
	},
}

func tellRules(rules []impl.SheetRule) []string {
	var told []string
	for _, rule := range rules {
		often := "once"
		if rule.Many {
			often = "many"
		}
		var words []string
		for _, word := range rule.Default {
			words = append(words, impl.SheetWord(word))
		}
		told = append(told, fmt.Sprintf("%s %v %s %v", rule.Key, rule.Args, often, words))
	}
	return told
}

func wantFits(t *testing.T, kind string, key string, words []string, want bool) {
	t.Helper()
	given := slices.Clone(words)
	if got := impl.SheetFits(kind, key, words); got != want {
		t.Errorf("SheetFits(%q, %q, %q) is %v, want %v", kind, key, given, got, want)
	}
	if !slices.Equal(given, words) {
		t.Errorf("SheetFits(%q, %q, %q) wrote into its words: %q", kind, key, given, words)
	}
}

// wantType asks for one word of a type, by a key that takes it.
func wantType(t *testing.T, kind string, key string, word string, want bool) {
	t.Helper()
	wantFits(t, kind, key, []string{word}, want)
}

func TestTypesAreTheDocuments(t *testing.T) {
	got := []int{impl.SheetNumber, impl.SheetSigned, impl.SheetName, impl.SheetText, impl.SheetYes, impl.SheetApart}
	if !slices.Equal(got, []int{1, 2, 3, 4, 5, 6}) {
		t.Errorf("types are %v", got)
	}
}

func TestRulesAreTheDocuments(t *testing.T) {
	for _, kind := range kinds {
		if told := tellRules(impl.SheetRules(kind)); !slices.Equal(told, rulesTold[kind]) {
			t.Errorf("rules of %s are\n%s\nwant\n%s", kind, strings.Join(told, "\n"), strings.Join(rulesTold[kind], "\n"))
		}
	}
}

func TestRulesOfNoKind(t *testing.T) {
	for _, kind := range []string{"", "Team", "TEAM", "teams", "tea", "team ", " team", "berths", "services", "end", "room", "\x00", "\xff", strings.Repeat("team", 6000)} {
		if rules := impl.SheetRules(kind); len(rules) != 0 {
			t.Errorf("SheetRules(%q) is %v", kind, rules)
		}
		wantFits(t, kind, "room", []string{"1"}, false)
		wantFits(t, kind, "", nil, false)
	}
}

// Promise 11.
func TestDefaultsFit(t *testing.T) {
	for _, kind := range kinds {
		for _, rule := range impl.SheetRules(kind) {
			if rule.Many {
				if len(rule.Default) != 0 {
					t.Errorf("%s %s is many and has the default %q", kind, rule.Key, rule.Default)
				}
				continue
			}
			if len(rule.Default) == 0 {
				t.Errorf("%s %s has no default", kind, rule.Key)
			}
			wantFits(t, kind, rule.Key, rule.Default, true)
		}
	}
}

func TestFitsAsManyWordsAsTypes(t *testing.T) {
	right := map[int]string{1: "7", 2: "-7", 3: "seven", 4: "se ven", 5: "yes", 6: "zone"}
	wrong := map[int]string{1: "x", 2: "x", 3: "X", 4: strings.Repeat("x", 201), 5: "x", 6: "x"}
	for _, kind := range kinds {
		for _, rule := range impl.SheetRules(kind) {
			var words []string
			for _, arg := range rule.Args {
				words = append(words, right[arg])
			}
			wantFits(t, kind, rule.Key, words, true)
			wantFits(t, kind, rule.Key, nil, false)
			wantFits(t, kind, rule.Key, []string{}, false)
			wantFits(t, kind, rule.Key, words[:len(words)-1], false)
			wantFits(t, kind, rule.Key, append(slices.Clone(words), words[0]), false)
			wantFits(t, kind, rule.Key, append(slices.Clone(words), ""), false)
			for i, arg := range rule.Args {
				spoilt := slices.Clone(words)
				spoilt[i] = wrong[arg]
				wantFits(t, kind, rule.Key, spoilt, false)
			}
		}
	}
}

func TestFitsOnlyKeysOfTheKind(t *testing.T) {
	wantFits(t, "berth", "zone", []string{"z"}, true)
	wantFits(t, "team", "zone", []string{"z"}, false)
	wantFits(t, "service", "room", []string{"1"}, false)
	wantFits(t, "berth", "copies", []string{"1"}, false)
	wantFits(t, "team", "team", []string{"core"}, false)
	wantFits(t, "service", "service", []string{"web"}, false)
	wantFits(t, "team", "", nil, false)
	wantFits(t, "team", "", []string{""}, false)
	wantFits(t, "team", "Room", []string{"1"}, false)
	wantFits(t, "team", "roo", []string{"1"}, false)
	wantFits(t, "team", "rooms", []string{"1"}, false)
	wantFits(t, "team", "room ", []string{"1"}, false)
	wantFits(t, "room", "team", []string{"1"}, false)
}

func wantNumber(t *testing.T, word string, number bool, signed bool) {
	t.Helper()
	wantType(t, "team", "room", word, number)
	wantFits(t, "service", "needs", []string{"1", word}, number)
	wantFits(t, "service", "like", []string{"x", word}, signed)
}

func TestFitsNumbers(t *testing.T) {
	for _, word := range []string{"0", "1", "9", "10", "100", "99999", "999999", "1000000"} {
		wantNumber(t, word, true, true)
	}
	for _, word := range []string{"-1", "-9", "-10", "-999999", "-1000000"} {
		wantNumber(t, word, false, true)
	}
	for _, word := range []string{
		"", " ", "-", "+", "--", "-0", "+0", "+1", "--1", "-+1", "+-1", "1-", "00", "01", "-01", "-00", "0001", "0000000", "0100",
		"1000001", "-1000001", "2000000", "10000000", "-10000000", "9223372036854775807", "9223372036854775808", "18446744073709551616", "18446744073709551617", "-9223372036854775808", "-9223372036854775809",
		strings.Repeat("0", 200), strings.Repeat("9", 200), "1" + strings.Repeat("0", 300),
		" 1", "1 ", "1\n", "1.0", "1.", ".1", "1e3", "1_000", "1,000", "0x1", "0b1", "0o1", "a", "1a", "a1", "\x00", "1\x00", "\xff", "١", "１",
	} {
		wantNumber(t, word, false, false)
	}
	for b := range 256 {
		digit := b >= '0' && b <= '9'
		wantNumber(t, string([]byte{byte(b)}), digit, digit)
		wantNumber(t, string([]byte{'1', byte(b)}), digit, digit)
		wantNumber(t, string([]byte{byte(b), '1'}), digit && b != '0', digit && b != '0' || b == '-')
	}
}

func TestFitsNames(t *testing.T) {
	for _, word := range []string{"a", "z", "0", "9", "-", "--", "-1", "a-1", "007", "core", strings.Repeat("n", 20), strings.Repeat("-", 20)} {
		wantType(t, "berth", "mark", word, true)
		wantType(t, "service", "team", word, true)
	}
	for _, word := range []string{"", " ", "A", "a_1", "a b", "a ", " a", "a.b", "a\x00", "é", strings.Repeat("n", 21), strings.Repeat("n", 200)} {
		wantType(t, "berth", "mark", word, false)
		wantType(t, "service", "team", word, false)
	}
	for b := range 256 {
		fits := b >= 'a' && b <= 'z' || b >= '0' && b <= '9' || b == '-'
		wantType(t, "berth", "zone", string([]byte{byte(b)}), fits)
		wantType(t, "berth", "zone", string([]byte{'a', byte(b)}), fits)
		wantType(t, "berth", "zone", string([]byte{byte(b), 'a'}), fits)
	}
}

func TestFitsTexts(t *testing.T) {
	for size, want := range map[int]bool{0: true, 1: true, 199: true, 200: true, 201: false, 20000: false} {
		wantType(t, "service", "where", strings.Repeat("x", size), want)
		wantFits(t, "service", "like", []string{strings.Repeat("\xff", size), "0"}, want)
	}
	wantType(t, "service", "where", strings.Repeat("é", 100), true)
	wantType(t, "service", "where", strings.Repeat("é", 101), false)
	for b := range 256 {
		wantType(t, "service", "where", string([]byte{byte(b)}), true)
	}
}

func TestFitsChoices(t *testing.T) {
	for _, word := range []string{"yes", "no"} {
		wantType(t, "service", "volume", word, true)
		wantType(t, "service", "apart", word, false)
	}
	for _, word := range []string{"none", "berth", "zone"} {
		wantType(t, "service", "apart", word, true)
		wantType(t, "service", "volume", word, false)
	}
	for _, word := range []string{"", "y", "n", "Yes", "NO", "yes ", " no", "yesno", "true", "1", "0", "None", "host", "team", "zones", "nones", "berths", "zon"} {
		wantType(t, "service", "volume", word, false)
		wantType(t, "service", "apart", word, false)
	}
}

// All that an answer holds is written into, its spare room included: neither its other lists nor the next answer may change.
func TestRulesAnswersAreNew(t *testing.T) {
	for _, kind := range kinds {
		rules := impl.SheetRules(kind)
		for i := range rules {
			args := rules[i].Args[:cap(rules[i].Args)]
			for j := range args {
				args[j] = 99
			}
			words := rules[i].Default[:cap(rules[i].Default)]
			for j := range words {
				words[j] = "spoilt"
			}
			if rest := tellRules(rules)[i+1:]; !slices.Equal(rest, rulesTold[kind][i+1:]) {
				t.Errorf("%s: writing into the rule of %s changed others: %q", kind, rules[i].Key, rest)
			}
		}
		spare := rules[:cap(rules)]
		for i := range spare {
			spare[i] = impl.SheetRule{Key: "spoilt"}
		}
		if told := tellRules(impl.SheetRules(kind)); !slices.Equal(told, rulesTold[kind]) {
			t.Errorf("writing into the rules of %s changed the next answer: %q", kind, told)
		}
	}
}
