package console

import (
	"strconv"
	"strings"

	"oberlin/api"
)

// mostNumber: the greatest that six digits tell.
const mostNumber = 999999

// number that a word tells. It must be told as it would be written, which keeps out noughts ahead, a plus, and a minus ahead of 0.
func number(word string) (int, error) {
	n, err := strconv.Atoi(word)
	if err != nil || n < -mostNumber || n > mostNumber || strconv.Itoa(n) != word {
		return 0, api.ErrSign
	}
	return n, nil
}

// numbers that words tell; of several that tell none the first one's error.
func numbers(words []string) ([]int, error) {
	var l []int
	for _, word := range words {
		n, err := number(word)
		if err != nil {
			return nil, err
		}
		l = append(l, n)
	}
	return l, nil
}

// list of numbers, as it is told.
func list(numbers ...int) string {
	var words []string
	for _, n := range numbers {
		words = append(words, strconv.Itoa(n))
	}
	return strings.Join(words, " ")
}

// oneLine is a text of several lines, as it is told.
func oneLine(text string) string {
	return strings.ReplaceAll(strings.TrimSuffix(text, "\n"), "\n", "|")
}

// wrong is an error, as it is told; with its place, if it has one.
func wrong(err error) string {
	e, text, at := api.Tell(err)
	told := "error " + strconv.Itoa(int(e))
	if text >= 0 {
		told += " in " + strconv.Itoa(text) + " at " + strconv.Itoa(at)
	}
	return told
}
