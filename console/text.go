package console

import (
	"strconv"
	"strings"

	"kissinggate/api"
	"kissinggate/code"
	"kissinggate/group"
)

// number that a word tells; false: it is none that a line may have.
func number(word string) (int, bool) {
	n := code.Number(word)
	// Told by the very same word, it has neither a sign nor noughts ahead.
	if n < 0 || n > greatest || numbers(n) != word {
		return 0, false
	}
	return n, true
}

// okay, unless something is wrong.
func okay(err error) string {
	if err != nil {
		return wrong(err)
	}
	return "ok"
}

// wrong: an error by its number.
func wrong(err error) string {
	// Every layer's errors are bare ones of package api (Z3), so there is always a number.
	e, _ := err.(api.Errno)
	return "error " + numbers(int(e))
}

// yesOrNo, unless something is wrong.
func yesOrNo(yes bool, err error) string {
	switch {
	case err != nil:
		return wrong(err)
	case yes:
		return "yes"
	}
	return "no"
}

// numbers, any number of them.
func numbers(l ...int) string {
	var words []string
	for _, n := range l {
		words = append(words, strconv.Itoa(n))
	}
	return listed(words, " ")
}

// listed words; of an empty list, too, something is to be seen.
func listed(words []string, between string) string {
	if len(words) == 0 {
		return "-"
	}
	return strings.Join(words, between)
}

func flyingText(l []api.Message) string {
	var words []string
	for _, m := range l {
		n := numbers(m.To, m.At, m.Cell.Epoch, m.Cell.Number, m.Tag)
		words = append(words, n+" "+code.DataText(m.Cell.Data))
	}
	return listed(words, "; ")
}

func groupText(g group.Group) string {
	var words []string
	for i, r := range g.R {
		words = append(words, numbers(r.Floor)+" "+upText(g.Up[i]))
	}
	return listed(words, "; ")
}

func upText(up bool) string {
	if up {
		return "up"
	}
	return "down"
}
