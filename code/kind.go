package code

import "kissinggate/api"

// kind of a command: its word, and which parts it has beside Op and Who.
type kind struct {
	word                                    string
	key, fresh, held, at, stays, data, want bool // fresh: New; held: Type
}

// kinds of commands, by Op.
func kinds() map[int]kind {
	return map[int]kind{
		api.Register: {word: "register", key: true, fresh: true, stays: true},
		api.Ignore:   {word: "ignore", key: true, fresh: true, stays: true},
		api.Reserve:  {word: "reserve", key: true, held: true},
		api.Release:  {word: "release", key: true, held: true},
		api.Clear:    {word: "clear", key: true},
		api.Preempt:  {word: "preempt", key: true, fresh: true, held: true},
		api.Read:     {word: "read", at: true},
		api.Write:    {word: "write", at: true, data: true},
		api.Compare:  {word: "compare", at: true, data: true, want: true},
	}
}

// opOf a word; 0: it is no command's.
func opOf(word string) int {
	l := kinds()
	for op := api.Register; op <= api.Compare; op++ {
		if l[op].word == word {
			return op
		}
	}
	return 0
}
