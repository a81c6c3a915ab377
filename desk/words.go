package desk

import (
	"strconv"
	"strings"
)

// wordsOf stops behind the first one too many, so that a line of any size costs
// no list of its size.
func wordsOf(s string) []string {
	var list []string
	for len(list) <= 1+mostNumbers {
		s = strings.TrimLeft(s, " ")
		if s == "" {
			break
		}
		word, rest, _ := strings.Cut(s, " ")
		list = append(list, word)
		s = rest
	}
	return list
}

// numbersOf is asked of at most as many words as an order has numbers.
func numbersOf(words []string) (numbers, bool) {
	var all numbers
	for i, word := range words {
		n, ok := numberOf(word)
		if !ok {
			return numbers{}, false
		}
		all[i] = n
	}
	return all, true
}

// numberOf writes the number anew, because only the shortest way to write one
// counts: 01, -0 and +1 are none.
func numberOf(word string) (int, bool) {
	n, err := strconv.Atoi(word)
	if err != nil || strconv.Itoa(n) != word {
		return 0, false
	}
	return n, true
}
