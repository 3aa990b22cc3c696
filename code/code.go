// Package code: commands, and their texts.
package code

import (
	"strconv"
	"strings"

	"kissinggate/api"
)

const (
	stays = "stays"
	goes  = "goes"
	// empty stands for data without bytes: two blanks in a row would be no part.
	empty = "-"
)

// Type: may something be held so?
func Type(n int) bool {
	switch n {
	case api.WriteAlone, api.UseAlone, api.WriteKnown, api.UseKnown, api.WriteAll, api.UseAll:
		return true
	}
	return false
}

// Check a command.
func Check(c api.Command) error {
	k, ok := kinds()[c.Op]
	if !ok {
		return api.ErrShape
	}
	if c.Who < 1 || c.Who > api.MaxWho {
		return api.ErrBound
	}
	if err := checkNumbers(k, c); err != nil {
		return err
	}
	if !shaped(k, c) {
		return api.ErrShape
	}
	if len(c.Data) > api.MaxData || len(c.Want) > api.MaxData {
		return api.ErrBound
	}
	if !letters(c.Data) || !letters(c.Want) {
		return api.ErrShape
	}
	return nil
}

// checkNumbers of a command, one behind the other: each one's errors go ahead of the next one's.
func checkNumbers(k kind, c api.Command) error {
	if err := checkNumber(c.Key, k.key, api.MaxKey); err != nil {
		return err
	}
	if err := checkNumber(c.New, k.fresh, api.MaxKey); err != nil {
		return err
	}
	return checkNumber(c.At, k.at, api.MaxAt)
}

// checkNumber that a command has, or doesn't have.
func checkNumber(n int, has bool, most int) error {
	if n != 0 && !has {
		return api.ErrShape
	}
	if n < 0 || n > most {
		return api.ErrBound
	}
	return nil
}

// shaped: is the Type one that there is, and nothing there that the command doesn't have?
func shaped(k kind, c api.Command) bool {
	if k.held && !Type(c.Type) {
		return false
	}
	return (k.held || c.Type == 0) && (k.stays || !c.Stays) && (k.data || c.Data == "") && (k.want || c.Want == "")
}

// letters: is all of it a to z?
func letters(s string) bool {
	for i := range len(s) {
		if s[i] < 'a' || s[i] > 'z' {
			return false
		}
	}
	return true
}

// Text of a command: who, what, and its parts.
func Text(c api.Command) (string, error) {
	if err := Check(c); err != nil {
		return "", err
	}
	k := kinds()[c.Op]
	l := []string{strconv.Itoa(c.Who), k.word}
	if k.key {
		l = append(l, strconv.Itoa(c.Key))
	}
	if k.fresh {
		l = append(l, strconv.Itoa(c.New))
	}
	if k.held {
		l = append(l, strconv.Itoa(c.Type))
	}
	if k.at {
		l = append(l, strconv.Itoa(c.At))
	}
	if k.stays {
		l = append(l, StaysText(c.Stays))
	}
	if k.data {
		l = append(l, DataText(c.Data))
	}
	if k.want {
		l = append(l, DataText(c.Want))
	}
	return strings.Join(l, " "), nil
}

// StaysText: the word for whether something stays when power is lost.
func StaysText(b bool) string {
	if b {
		return stays
	}
	return goes
}

// DataText: data as a word, also if it has no bytes.
func DataText(s string) string {
	if s == "" {
		return empty
	}
	return s
}

// Parse the text of a command.
func Parse(s string) (api.Command, error) {
	c := guess(s)
	// What was guessed counts just if it is told by the very same text: so no odd spelling of a part needs a look of its own.
	if t, err := Text(c); err != nil || t != s {
		return api.Command{}, api.ErrText
	}
	// A piece of s would hold on to all of it.
	c.Data, c.Want = strings.Clone(c.Data), strings.Clone(c.Want)
	return c, nil
}

// guess which command it is that has this text, if one has.
func guess(s string) api.Command {
	next := func() string {
		word, rest, _ := strings.Cut(s, " ")
		s = rest
		return word
	}
	c := api.Command{Who: Number(next()), Op: opOf(next())}
	k := kinds()[c.Op]
	if k.key {
		c.Key = Number(next())
	}
	if k.fresh {
		c.New = Number(next())
	}
	if k.held {
		c.Type = Number(next())
	}
	if k.at {
		c.At = Number(next())
	}
	if k.stays {
		c.Stays = next() == stays
	}
	if k.data {
		c.Data = data(next())
	}
	if k.want {
		c.Want = data(next())
	}
	return c
}

// Number that a word tells, odd spellings too (who asks holds the whole text against what was read); -1, which neither a command nor a state has: it tells none.
func Number(word string) int {
	n, err := strconv.Atoi(word)
	if err != nil {
		return -1
	}
	return n
}

func data(word string) string {
	if word == empty {
		return ""
	}
	return word
}
