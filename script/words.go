package script

import (
	"strconv"
	"strings"
)

// read words that are of a form: N, N:N and TEXT, and .. for as many more numbers as there are.
func read(form string, words []string) (args, bool) {
	kinds := strings.Fields(form)
	if last := len(kinds) - 1; last >= 0 && kinds[last] == ".." {
		kinds = kinds[:last]
		for len(kinds) < len(words) {
			kinds = append(kinds, "N")
		}
	}
	if len(words) != len(kinds) {
		return args{}, false
	}
	var a args
	for i, kind := range kinds {
		if !a.add(kind, words[i]) {
			return args{}, false
		}
	}
	return a, true
}

// add a word of this kind, if it is one.
func (a *args) add(kind, word string) bool {
	switch kind {
	case "N":
		return a.addNumbers(word)
	case "N:N":
		node, at, ok := strings.Cut(word, ":")
		return ok && a.addNumbers(node, at)
	}
	a.text = word
	return isText(word)
}

func (a *args) addNumbers(words ...string) bool {
	for _, word := range words {
		n, ok := number(word)
		if !ok {
			return false
		}
		a.n = append(a.n, n)
	}
	return true
}

// number of a word. What it would be told as is the word itself: so it has no sign, and no needless zeros.
func number(word string) (int, bool) {
	if len(word) > longest {
		return 0, false
	}
	n, err := strconv.Atoi(word)
	return n, err == nil && n >= 0 && strconv.Itoa(n) == word
}

// isText tells whether a word is of small letters and digits, at least one.
func isText(word string) bool {
	strange := func(r rune) bool { return (r < 'a' || r > 'z') && (r < '0' || r > '9') }
	return word != "" && !strings.ContainsFunc(word, strange)
}
