package rules

import (
	"slices"
	"testing"
)

func TestTokensAreTheLongest(t *testing.T) {
	for _, c := range []struct {
		text string
		want []token
	}{
		{"", []token{{textEnd, "", 0}}},
		{" \t\n", []token{{textEnd, "", 3}}},
		{"acts a", []token{{actsWord, "acts", 0}, {name, "a", 5}, {textEnd, "", 6}}},
		{"actsa", []token{{name, "actsa", 0}, {textEnd, "", 5}}},
		{"endX", []token{{endWord, "end", 0}, {letterX, "X", 3}, {textEnd, "", 4}}},
		{"trues false", []token{{name, "trues", 0}, {falseWord, "false", 6}, {textEnd, "", 11}}},
		{"12", []token{{digit, "1", 0}, {digit, "2", 1}, {textEnd, "", 2}}},
		{"XNFGU", []token{{letterX, "X", 0}, {letterN, "N", 1}, {letterF, "F", 2}, {letterG, "G", 3}, {letterU, "U", 4}, {textEnd, "", 5}}},
		{"->|&!(),;", []token{{arrow, "->", 0}, {bar, "|", 2}, {ampersand, "&", 3}, {bang, "!", 4}, {opening, "(", 5}, {closing, ")", 6}, {comma, ",", 7}, {semicolon, ";", 8}, {textEnd, "", 9}}},
		{"- >", []token{{stray, "-", 0}, {stray, ">", 2}, {textEnd, "", 3}}},
		{"\r\xe9A", []token{{stray, "\r", 0}, {stray, "\xe9", 1}, {stray, "A", 2}, {textEnd, "", 3}}},
	} {
		if got := scan(c.text); !slices.Equal(got, c.want) {
			t.Errorf("P3: scan(%q) = %v, want %v", c.text, got, c.want)
		}
	}
}
