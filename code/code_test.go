package code_test

import (
	"math"
	"strings"
	"testing"

	"kissinggate/api"
	"kissinggate/code"
)

// texts of commands that may be, at the edges of each of their parts.
var texts = []struct {
	c    api.Command
	text string
}{
	{api.Command{Op: api.Register, Who: 1, New: 11}, "1 register 0 11 goes"},
	{api.Command{Op: api.Register, Who: 2, Key: 999, New: 999, Stays: true}, "2 register 999 999 stays"},
	{api.Command{Op: api.Register, Who: 4}, "4 register 0 0 goes"},
	{api.Command{Op: api.Ignore, Who: 4, Key: 7, Stays: true}, "4 ignore 7 0 stays"},
	{api.Command{Op: api.Ignore, Who: 3, New: 10}, "3 ignore 0 10 goes"},
	{api.Command{Op: api.Reserve, Who: 1, Key: 11, Type: api.WriteKnown}, "1 reserve 11 5"},
	{api.Command{Op: api.Reserve, Who: 1, Type: api.WriteAlone}, "1 reserve 0 1"},
	{api.Command{Op: api.Release, Who: 3, Key: 999, Type: api.UseAll}, "3 release 999 8"},
	{api.Command{Op: api.Clear, Who: 2, Key: 22}, "2 clear 22"},
	{api.Command{Op: api.Clear, Who: 2}, "2 clear 0"},
	{api.Command{Op: api.Preempt, Who: 1, Key: 11, New: 22, Type: api.UseAlone}, "1 preempt 11 22 3"},
	{api.Command{Op: api.Preempt, Who: 1, New: 999, Type: api.WriteAll}, "1 preempt 0 999 7"},
	{api.Command{Op: api.Read, Who: 3}, "3 read 0"},
	{api.Command{Op: api.Read, Who: 3, At: 7}, "3 read 7"},
	{api.Command{Op: api.Write, Who: 2, Data: "hay"}, "2 write 0 hay"},
	{api.Command{Op: api.Write, Who: 2, At: 7}, "2 write 7 -"},
	{api.Command{Op: api.Write, Who: 2, At: 1, Data: "azazazaz"}, "2 write 1 azazazaz"},
	{api.Command{Op: api.Compare, Who: 1, At: 1, Data: "better", Want: "new"}, "1 compare 1 better new"},
	{api.Command{Op: api.Compare, Who: 1, At: 7, Want: "zzzzzzzz"}, "1 compare 7 - zzzzzzzz"},
	{api.Command{Op: api.Compare, Who: 1, Data: "a"}, "1 compare 0 a -"},
	{api.Command{Op: api.Compare, Who: 4}, "4 compare 0 - -"},
}

// A1.
func TestType(t *testing.T) {
	for n := -20; n <= 20; n++ {
		want := n == 1 || n == 3 || n == 5 || n == 6 || n == 7 || n == 8
		if code.Type(n) != want {
			t.Errorf("Type(%d) = %v", n, !want)
		}
	}
	for _, n := range []int{math.MinInt, math.MaxInt, 1 << 32, 1<<32 + 1, 256 + 1} {
		if code.Type(n) {
			t.Errorf("Type(%d) = true", n)
		}
	}
}

// A2.
func TestCheckOfCommandsThatMayBe(t *testing.T) {
	for _, x := range texts {
		if err := code.Check(x.c); err != nil {
			t.Errorf("Check(%+v) = %v", x.c, err)
		}
	}
}

// A2: what is wrong, and which of several wrongs is told.
func TestCheckTellsTheFirst(t *testing.T) {
	for _, x := range []struct {
		name string
		c    api.Command
		want api.Errno
	}{
		{"no op", api.Command{Who: 1}, api.ErrShape},
		{"op below", api.Command{Op: -1, Who: 1}, api.ErrShape},
		{"op above", api.Command{Op: 10, Who: 1}, api.ErrShape},
		{"op far above", api.Command{Op: math.MaxInt, Who: 1}, api.ErrShape},
		{"op far below", api.Command{Op: math.MinInt, Who: 1}, api.ErrShape},
		{"op goes ahead of who", api.Command{Op: 10, Who: 5}, api.ErrShape},
		{"nobody", api.Command{Op: api.Read}, api.ErrBound},
		{"who below", api.Command{Op: api.Read, Who: -1}, api.ErrBound},
		{"who above", api.Command{Op: api.Read, Who: 5}, api.ErrBound},
		{"who far above", api.Command{Op: api.Read, Who: math.MaxInt}, api.ErrBound},
		{"who goes ahead of key", api.Command{Op: api.Read, Who: 5, Key: 1}, api.ErrBound},

		{"key above", api.Command{Op: api.Clear, Who: 1, Key: 1000}, api.ErrBound},
		{"key below", api.Command{Op: api.Clear, Who: 1, Key: -1}, api.ErrBound},
		{"new above", api.Command{Op: api.Ignore, Who: 1, New: 1000}, api.ErrBound},
		{"new below", api.Command{Op: api.Ignore, Who: 1, New: math.MinInt}, api.ErrBound},
		{"at above", api.Command{Op: api.Write, Who: 1, At: 8}, api.ErrBound},
		{"at below", api.Command{Op: api.Compare, Who: 1, At: -1}, api.ErrBound},
		{"a key that it doesn't have, below", api.Command{Op: api.Read, Who: 1, Key: -1}, api.ErrShape},
		{"a key that it doesn't have, above", api.Command{Op: api.Read, Who: 1, Key: 1000}, api.ErrShape},
		{"an at that it doesn't have, above", api.Command{Op: api.Clear, Who: 1, At: 8}, api.ErrShape},
		{"key goes ahead of new", api.Command{Op: api.Clear, Who: 1, Key: 1000, New: 1}, api.ErrBound},
		{"new goes ahead of at", api.Command{Op: api.Register, Who: 1, New: -1, At: 1}, api.ErrBound},
		{"key's shape goes ahead of at's bound", api.Command{Op: api.Read, Who: 1, Key: 1, At: 8}, api.ErrShape},
		{"at's bound goes ahead of type", api.Command{Op: api.Read, Who: 1, At: 8, Type: 1}, api.ErrBound},
		{"key's bound goes ahead of no type", api.Command{Op: api.Reserve, Who: 1, Key: 1000}, api.ErrBound},

		{"reserve without type", api.Command{Op: api.Reserve, Who: 1, Key: 1}, api.ErrShape},
		{"release of a type that is none", api.Command{Op: api.Release, Who: 1, Key: 1, Type: 2}, api.ErrShape},
		{"preempt of a type that is none", api.Command{Op: api.Preempt, Who: 1, Key: 1, Type: 9}, api.ErrShape},
		{"type below", api.Command{Op: api.Preempt, Who: 1, Key: 1, Type: -1}, api.ErrShape},
		{"a type that it doesn't have, and is none", api.Command{Op: api.Clear, Who: 1, Type: 2}, api.ErrShape},
		{"data that it doesn't have goes ahead of its length", api.Command{Op: api.Read, Who: 1, Data: "aaaaaaaaa"}, api.ErrShape},
		{"want that it doesn't have goes ahead of data's length", api.Command{Op: api.Write, Who: 1, Data: "aaaaaaaaa", Want: "a"}, api.ErrShape},

		{"data too long", api.Command{Op: api.Write, Who: 1, Data: "aaaaaaaaa"}, api.ErrBound},
		{"want too long", api.Command{Op: api.Compare, Who: 1, Want: "aaaaaaaaa"}, api.ErrBound},
		{"length is of bytes, ahead of letters", api.Command{Op: api.Write, Who: 1, Data: "ééééé"}, api.ErrBound},
		{"want's length goes ahead of data's letters", api.Command{Op: api.Compare, Who: 1, Data: "A", Want: "aaaaaaaaa"}, api.ErrBound},
		{"want's letters", api.Command{Op: api.Compare, Who: 1, Data: "a", Want: "a a"}, api.ErrShape},
	} {
		if err := code.Check(x.c); err != x.want {
			t.Errorf("%s: Check(%+v) = %v, want %v", x.name, x.c, err, x.want)
		}
	}
}

// A2: each byte but a to z is wrong, at each place.
func TestCheckLetters(t *testing.T) {
	for b := range 256 {
		for _, s := range []string{string([]byte{byte(b)}), "a" + string([]byte{byte(b)}) + "z", "zzzzzzz" + string([]byte{byte(b)})} {
			var want error
			if b < 'a' || b > 'z' {
				want = api.ErrShape
			}
			if err := code.Check(api.Command{Op: api.Write, Who: 1, Data: s}); err != want {
				t.Errorf("Check of data %q = %v", s, err)
			}
			if err := code.Check(api.Command{Op: api.Compare, Who: 1, Want: s}); err != want {
				t.Errorf("Check of want %q = %v", s, err)
			}
		}
	}
}

// A2: each command has the parts of the chapter's table, and none beside them.
func TestCheckParts(t *testing.T) {
	has := map[int]string{
		api.Register: "key new stays", api.Ignore: "key new stays",
		api.Reserve: "key type", api.Release: "key type", api.Clear: "key",
		api.Preempt: "key new type", api.Read: "at", api.Write: "at data", api.Compare: "at data want",
	}
	put := map[string]func(c *api.Command){
		"key": func(c *api.Command) { c.Key = 1 }, "new": func(c *api.Command) { c.New = 1 },
		"type": func(c *api.Command) { c.Type = api.UseAlone }, "at": func(c *api.Command) { c.At = 1 },
		"stays": func(c *api.Command) { c.Stays = true }, "data": func(c *api.Command) { c.Data = "a" },
		"want": func(c *api.Command) { c.Want = "a" },
	}
	for op, parts := range has {
		for part, set := range put {
			c := api.Command{Op: op, Who: 1}
			if strings.Contains(parts, "type") {
				c.Type = api.WriteAlone
			}
			set(&c)
			var want error
			if !strings.Contains(parts, part) {
				want = api.ErrShape
			}
			if err := code.Check(c); err != want {
				t.Errorf("Check(%+v) = %v, want %v", c, err, want)
			}
		}
	}
}

// A3.
func TestTextAndParse(t *testing.T) {
	for _, x := range texts {
		if s, err := code.Text(x.c); s != x.text || err != nil {
			t.Errorf("Text(%+v) = %q, %v; want %q", x.c, s, err, x.text)
		}
		if c, err := code.Parse(x.text); c != x.c || err != nil {
			t.Errorf("Parse(%q) = %+v, %v; want %+v", x.text, c, err, x.c)
		}
	}
}

// A3, Z1: Check's error, and no text beside it.
func TestTextOfWrongCommands(t *testing.T) {
	for _, x := range []struct {
		c    api.Command
		want api.Errno
	}{
		{api.Command{}, api.ErrShape},
		{api.Command{Op: api.Clear}, api.ErrBound},
		{api.Command{Op: api.Clear, Who: 1, At: 1}, api.ErrShape},
		{api.Command{Op: api.Read, Who: 1, At: 8}, api.ErrBound},
		{api.Command{Op: api.Write, Who: 1, Data: "-"}, api.ErrShape},
		{api.Command{Op: api.Compare, Who: 1, Want: "aaaaaaaaa"}, api.ErrBound},
	} {
		if s, err := code.Text(x.c); s != "" || err != x.want {
			t.Errorf("Text(%+v) = %q, %v; want %v", x.c, s, err, x.want)
		}
	}
}

// A3, Z3: texts that look like one, but no command has.
func TestParseOfWrongTexts(t *testing.T) {
	for _, s := range []string{
		"", " ", "1", "1 ", "clear", "1 clear", "1 clear ", "clear 1 5", "1 fly 0", "1 0", "1  0",
		" 1 clear 5", "1 clear 5 ", "1  clear 5", "1 clear  5", "1\tclear 5", "1 clear 5\n", "1 clear 5 0",
		"1 Clear 5", "1 CLEAR 5", "1 clea 5", "1 clears 5", "1 - 5",
		"0 clear 5", "5 clear 5", "01 clear 5", "+1 clear 5", "-1 clear 5", "x clear 5",
		"1 clear 05", "1 clear 00", "1 clear -0", "1 clear +5", "1 clear -5", "1 clear 1000", "1 clear 5.", "1 clear 0x5", "1 clear 1_0",
		"1 clear 99999999999999999999999999", "1 clear 18446744073709551621", "1 clear 4294967301", "1 clear ٥", "1 clear -",
		"1 register 0 11", "1 register 0 goes", "1 register 0 11 stay", "1 register 0 11 Stays", "1 register 0 11 ", "1 register 0 11 goes goes",
		"1 ignore 0 1000 goes", "1 reserve 11", "1 reserve 11 0", "1 reserve 11 2", "1 reserve 11 9", "1 reserve 11 05", "1 reserve 11 5 goes",
		"1 preempt 11 5", "1 preempt 11 22 4", "1 preempt 11 22", "1 read", "1 read 8", "1 read 00", "1 read 0 -",
		"1 write 0", "1 write 0 ", "1 write 0 A", "1 write 0 --", "1 write 0 a-", "1 write 0 aaaaaaaaa", "1 write 0 a b", "1 write 0 é", "1 write 0 a ", "1 write a",
		"1 compare 0 a", "1 compare 0 a ", "1 compare 0  a", "1 compare 0 a b c", "1 compare 0 - - -",
		strings.Repeat(" ", 1000), strings.Repeat("9", 1000), "1 clear 5" + strings.Repeat(" ", 1000), "1 write 0 " + strings.Repeat("a", 1000), "\x00", "\xff\xfe",
	} {
		if c, err := code.Parse(s); c != (api.Command{}) || err != api.ErrText {
			t.Errorf("Parse(%q) = %+v, %v", s, c, err)
		}
	}
}

// A3: what is parsed has that very text, whichever byte of a text is another one, is missing, or is there twice.
func TestParseOfNearTexts(t *testing.T) {
	for _, x := range texts {
		for i := range len(x.text) {
			near := []string{x.text[:i] + x.text[i+1:], x.text[:i] + x.text[i:i+1] + x.text[i:]}
			for b := range 256 {
				near = append(near, x.text[:i]+string([]byte{byte(b)})+x.text[i+1:])
			}
			for _, s := range near {
				c, err := code.Parse(s)
				if err != nil {
					if c != (api.Command{}) || err != api.ErrText {
						t.Errorf("Parse(%q) = %+v, %v", s, c, err)
					}
					continue
				}
				if u, err := code.Text(c); u != s || err != nil {
					t.Errorf("Parse(%q) = %+v, of which the text is %q, %v", s, c, u, err)
				}
			}
		}
	}
}

// A3: each command that may be, of numbers at their edges, is what its text is parsed to.
func TestTextsAreParsed(t *testing.T) {
	seen := map[string]api.Command{}
	words := []string{"", "a", "z", "abcdefgh"}
	for i := range 9 * 4 * 4 * 4 * 9 * 4 * 2 * 4 * 4 {
		pick := func(n int) int {
			k := i % n
			i /= n
			return k
		}
		c := api.Command{Op: 1 + pick(9), Who: 1 + pick(4)}
		c.Key, c.New = []int{0, 1, 10, 999}[pick(4)], []int{0, 1, 10, 999}[pick(4)]
		c.Type, c.At, c.Stays = pick(9), []int{0, 1, 6, 7}[pick(4)], pick(2) == 1
		c.Data, c.Want = words[pick(4)], words[pick(4)]
		if code.Check(c) != nil {
			continue
		}
		s, err := code.Text(c)
		if err != nil {
			t.Fatalf("Text(%+v): %v", c, err)
		}
		if d, err := code.Parse(s); d != c || err != nil {
			t.Fatalf("Parse(%q) = %+v, %v; want %+v", s, d, err, c)
		}
		if d, ok := seen[s]; ok && d != c {
			t.Fatalf("%+v and %+v have the text %q", c, d, s)
		}
		seen[s] = c
	}
	// Register and Ignore, Reserve and Release, Clear, Preempt, Read, Write, Compare.
	if want := 4 * (2*4*4*2 + 2*4*6 + 4 + 4*4*6 + 4 + 4*4 + 4*4*4); len(seen) != want {
		t.Errorf("%d texts, want %d", len(seen), want)
	}
}

// Z1: no number, and no text, makes a call panic.
func TestNoPanic(t *testing.T) {
	ends := []int{math.MinInt, -1, 0, 1, 8, 1000, math.MaxInt}
	for _, op := range ends {
		for _, n := range ends {
			for _, s := range []string{"", "\xff", strings.Repeat("z", 100)} {
				c := api.Command{Op: op, Who: n, Key: n, New: n, Type: n, At: n, Stays: true, Data: s, Want: s}
				err := code.Check(c)
				if _, ok := err.(api.Errno); err != nil && !ok {
					t.Errorf("Check(%+v) = %T", c, err)
				}
				if u, err2 := code.Text(c); err2 != err || err != nil && u != "" {
					t.Errorf("Text(%+v) = %q, %v; Check says %v", c, u, err2, err)
				}
			}
		}
	}
}
