package impl

import "strconv"

// Types of words.
const (
	SheetNumber = 1
	SheetSigned = 2
	SheetName   = 3
	SheetText   = 4
	SheetYes    = 5
	SheetApart  = 6
)

// SheetRule is what a key takes.
type SheetRule struct {
	Key     string
	Args    []int
	Many    bool
	Default []string
}

// SheetRules gives the keys of a kind.
func SheetRules(kind string) []SheetRule {
	return ruleTable()[kind]
}

// SheetFits says whether words are such as a key takes.
func SheetFits(kind string, key string, words []string) bool {
	rule, ok := findRule(SheetRules(kind), key)
	return ok && ruleTakes(rule, words)
}

// ruleTable is written out in a function so that each caller has lists of its own.
func ruleTable() map[string][]SheetRule {
	return map[string][]SheetRule{
		"team": {
			{Key: "copies", Args: []int{SheetNumber}, Default: []string{"100"}},
			{Key: "room", Args: []int{SheetNumber}, Default: []string{"1000"}},
		},
		"berth": {
			{Key: "zone", Args: []int{SheetName}, Default: []string{"z"}},
			{Key: "room", Args: []int{SheetNumber}, Default: []string{"100"}},
			{Key: "hold", Args: []int{SheetNumber}, Default: []string{"100"}},
			{Key: "mark", Args: []int{SheetName}, Many: true},
		},
		"service": {
			{Key: "team", Args: []int{SheetName}, Default: []string{"core"}},
			{Key: "image", Args: []int{SheetNumber}, Default: []string{"1"}},
			{Key: "want", Args: []int{SheetNumber}, Default: []string{"1"}},
			{Key: "down", Args: []int{SheetNumber}, Default: []string{"1"}},
			{Key: "over", Args: []int{SheetNumber}, Default: []string{"0"}},
			{Key: "needs", Args: []int{SheetNumber, SheetNumber}, Default: []string{"1", "1"}},
			{Key: "where", Args: []int{SheetText}, Default: []string{""}},
			{Key: "like", Args: []int{SheetText, SheetSigned}, Many: true},
			{Key: "apart", Args: []int{SheetApart}, Default: []string{"none"}},
			{Key: "volume", Args: []int{SheetYes}, Default: []string{"no"}},
			{Key: "follow", Args: []int{SheetNumber, SheetNumber, SheetNumber}, Default: []string{"0", "0", "0"}},
			{Key: "pace", Args: []int{SheetNumber, SheetNumber, SheetNumber}, Default: []string{"0", "0", "0"}},
		},
	}
}

func findRule(rules []SheetRule, key string) (SheetRule, bool) {
	for _, rule := range rules {
		if rule.Key == key {
			return rule, true
		}
	}
	return SheetRule{}, false
}

func ruleTakes(rule SheetRule, words []string) bool {
	if len(words) != len(rule.Args) {
		return false
	}
	for i, arg := range rule.Args {
		if !wordType(arg).takes(words[i]) {
			return false
		}
	}
	return true
}

// wordType is one of the types of words, SheetNumber to SheetApart.
type wordType int

func (t wordType) takes(word string) bool {
	switch t {
	case SheetNumber:
		return isDecimal(word, 0)
	case SheetSigned:
		return isDecimal(word, -SheetMaxNumber)
	case SheetName:
		return isName(word)
	case SheetText:
		return len(word) <= SheetMaxWord
	case SheetYes:
		return word == "yes" || word == "no"
	case SheetApart:
		return word == "none" || word == "berth" || word == "zone"
	}
	return false
}

// isDecimal writes the number anew, since reading alone lets a plus sign,
// needless zeros and a minus ahead of 0 pass.
func isDecimal(word string, least int) bool {
	number, err := strconv.Atoi(word)
	if err != nil || number < least || number > SheetMaxNumber {
		return false
	}
	return strconv.Itoa(number) == word
}

func isName(word string) bool {
	for i := range len(word) {
		if !isNameByte(word[i]) {
			return false
		}
	}
	return len(word) >= 1 && len(word) <= SheetMaxName
}

func isNameByte(b byte) bool {
	return b >= 'a' && b <= 'z' || b >= '0' && b <= '9' || b == '-'
}
