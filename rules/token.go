package rules

import (
	"strings"

	"sentry/api"
)

// kind is the kind of a token.
type kind int

const (
	textEnd kind = iota
	stray        // a byte that begins no token
	name
	digit
	actsWord
	ruleWord
	trueWord
	falseWord
	endWord
	letterX
	letterN
	letterF
	letterG
	letterU
	arrow
	bar
	ampersand
	bang
	opening
	closing
	comma
	semicolon
)

type token struct {
	kind  kind
	text  string
	place int
}

// spelling is a token that is always written the same way.
type spelling struct {
	text string
	kind kind
}

var words = [...]spelling{
	{"acts", actsWord},
	{"rule", ruleWord},
	{"true", trueWord},
	{"false", falseWord},
	{"end", endWord},
}

var signs = [...]spelling{
	{"X", letterX},
	{"N", letterN},
	{"F", letterF},
	{"G", letterG},
	{"U", letterU},
	{"->", arrow},
	{"|", bar},
	{"&", ampersand},
	{"!", bang},
	{"(", opening},
	{")", closing},
	{",", comma},
	{";", semicolon},
}

// scan gives the text's tokens; the last one is always the text's end.
func scan(text string) []token {
	var tokens []token
	for at := blanksEnd(text, 0); at < len(text); {
		t := tokenAt(text, at)
		tokens = append(tokens, t)
		at = blanksEnd(text, at+len(t.text))
	}
	return append(tokens, token{textEnd, "", len(text)})
}

func blanksEnd(text string, at int) int {
	for at < len(text) && (text[at] == ' ' || text[at] == '\t' || text[at] == '\n') {
		at++
	}
	return at
}

// tokenAt is for a place ahead of the text's end.
func tokenAt(text string, at int) token {
	rest := text[at:]
	if n := lettersEnd(rest); n > 0 {
		return token{wordKind(rest[:n]), rest[:n], at}
	}
	if '0' <= rest[0] && rest[0] <= '9' {
		return token{digit, rest[:1], at}
	}
	for _, s := range signs {
		if strings.HasPrefix(rest, s.text) {
			return token{s.kind, s.text, at}
		}
	}
	return token{stray, rest[:1], at}
}

func lettersEnd(text string) int {
	n := 0
	for n < len(text) && 'a' <= text[n] && text[n] <= 'z' {
		n++
	}
	return n
}

func wordKind(word string) kind {
	for _, w := range words {
		if w.text == word {
			return w.kind
		}
	}
	return name
}

// IsName tells whether the text can name an activity.
func IsName(text string) bool {
	n := len(text)
	return 1 <= n && n <= api.MaxName && lettersEnd(text) == n && wordKind(text) == name
}
