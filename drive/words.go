package drive

import "strconv"

// maxNumber is the greatest NUMBER of a line.
const maxNumber = 999999

func done() []string { return []string{"ok"} }

func none() []string { return []string{"none"} }

// unknown answers what is no line of a script, or asks for what may not be.
func unknown() []string { return []string{"?"} }

// told has a word for each number.
func told[N int | int64](numbers ...N) []string {
	words := []string{}
	for _, n := range numbers {
		words = append(words, strconv.FormatInt(int64(n), 10))
	}
	return words
}

// numbersOf tells the NUMBERs that words are, if each of them is one.
func numbersOf(words []string) ([]int, bool) {
	numbers := []int{}
	for _, word := range words {
		n, ok := numberOf(word)
		if !ok {
			return nil, false
		}
		numbers = append(numbers, n)
	}
	return numbers, true
}

// numberOf tells the NUMBER that is written so.
func numberOf(word string) (int, bool) {
	n, err := strconv.Atoi(word)
	// A number is written in one way alone, and more are taken for it: a + or a 0 ahead, a - ahead of 0.
	return n, err == nil && 0 <= n && n <= maxNumber && strconv.Itoa(n) == word
}
