package console_test

import (
	"fmt"
	"slices"
	"strings"
	"testing"

	"kissinggate/api"
	"kissinggate/console"
)

// run lines that must be answered, one by one.
func run(t *testing.T, lines ...string) []string {
	t.Helper()
	l, err := console.Run(lines)
	if err != nil || len(l) != len(lines) {
		t.Fatalf("Run(%q) = %q, %v", lines, l, err)
	}
	return l
}

// session: lines, each with what is to be answered behind " => ".
func session(t *testing.T, text string) {
	t.Helper()
	var lines, want []string
	for _, line := range strings.Split(text, "\n") {
		if ask, answer, ok := strings.Cut(strings.TrimLeft(line, "\t"), " => "); ok {
			lines, want = append(lines, ask), append(want, answer)
		}
	}
	for i, got := range run(t, lines...) {
		if got != want[i] {
			t.Fatalf("line %d: %s => %s, want %s", i, lines[i], got, want[i])
		}
	}
}

// L1, L2: the document's example.
func TestExample(t *testing.T) {
	session(t, `
		ask 1 register 0 11 goes => ok
		ask 2 register 0 22 stays => ok
		keys => 11 22
		state => 2 0 0 stays 1:11 2:22
		ask 1 reserve 11 5 => ok
		ask 2 write 0 hay => waits 1
		flying => 0 0 3 1 1 hay; 1 0 3 1 1 hay; 2 0 3 1 1 hay
		deliver 0 => yes
		deliver 0 => yes
		done 1 => yes
		waits => -
		ask 3 read 0 => data hay
		ask 3 write 0 oats => error 4
		ask 2 write 1 old => waits 2
		epoch => 3
		ask 1 preempt 11 22 5 => ok
		epoch => 4
		waits => -
		flying => 2 0 3 1 1 hay; 0 1 3 2 2 old; 1 1 3 2 2 old; 2 1 3 2 2 old
		deliver 0 => no
		deliver 0 => no
		ask 2 read 0 => told 1
		ask 2 read 0 => data hay
		ask 2 write 0 x => error 4
		ask 1 read 1 => data -
		down 2 => ok
		group => 4 up; 4 up; 4 down
		ask 1 write 1 new => waits 3
		deliver 3 => yes
		deliver 3 => no
		done 3 => no
		ask 3 read 1 => data new
		up 2 => ok
		group => 4 up; 4 up; 4 up
		ask 1 clear 11 => ok
		group => 4 up; 4 up; 4 up
		state => 4 0 0 stays
		sync 2 => error 7
		group => 4 up; 4 up; 4 up
		ask 1 compare 1 better new => error 7
		ask 1 compare 1 worse new => error 7
		copy 4 => error 8
		copy 4 => error 8
		power => ok
		ask 4 read 0 => told 4
		ask 4 read 0 => data hay
		state => 0 0 0 stays
		again => ok
		epoch => 6
		restart 0 => ok
		ask 5 read 0 => error 3
		ask 1 reserve 9 2 => error 3
		fly high => error 3`)
}

// L1: what there is at the beginning: a new group, and an epoch behind that of a new formatted disk.
func TestBeginning(t *testing.T) {
	session(t, `
		state => 0 0 0 goes
		keys => -
		epoch => 2
		waits => -
		flying => -
		group => 2 up; 2 up; 2 up
		done 0 => no
		done 1 => no
		ask 1 read 0 => data -
		ask 4 read 7 => data -`)
}

// L1, Z2: each session begins anew.
func TestSessionsApart(t *testing.T) {
	run(t, "ask 1 register 0 1 stays", "ask 1 reserve 1 3", "ask 1 write 0 hay", "deliver 0", "deliver 0", "down 0")
	TestBeginning(t)
}

// L1: no more than MaxLines.
func TestMany(t *testing.T) {
	lines := slices.Repeat([]string{"again"}, api.MaxLines)
	for i, got := range run(t, lines...) {
		if got != "ok" {
			t.Fatalf("line %d: %s", i, got)
		}
	}
	for _, n := range []int{api.MaxLines + 1, 2 * api.MaxLines, 10000} {
		l, err := console.Run(make([]string, n))
		if len(l) != 0 || err != api.ErrMany {
			t.Errorf("%d lines: %q, %v", n, l, err)
		}
	}
}

// L1: without a line there is no answer.
func TestNone(t *testing.T) {
	for _, lines := range [][]string{nil, {}} {
		if l, err := console.Run(lines); len(l) != 0 || err != nil {
			t.Errorf("%q, %v", l, err)
		}
	}
}

// long enough to be just of n bytes.
func long(ahead string, n int) string {
	return ahead + strings.Repeat("x", n-len(ahead))
}

// wrongLines are none that the document lists.
func wrongLines() []string {
	l := []string{
		"", " ", "  ", "\n", "\x00", "-", "0", "ok", "fly high", "State", "STATE", "statex", "stat", "état", "\xff\xfe",
		"ask", "ask ", "ask  ", "ask 1", "ask 1 read", "ask 1 read ", "ask 1 read 0 ", "ask  1 read 0", " ask 1 read 0", "ask\t1 read 0", "ask 1 read 0\n",
		"ask 0 read 0", "ask 5 read 0", "ask 01 read 0", "ask +1 read 0", "ask 1 read 8", "ask 1 read -1", "ask 1 read 00", "ask 1 Read 0", "ask read 0",
		"ask 1 write 0", "ask 1 write 0 ", "ask 1 write 0 Hay", "ask 1 write 0 ninechars", "ask 1 write 0 h4y", "ask 1 write 0 hay hay", "ask 1 write 0 --",
		"ask 1 compare 0 a", "ask 1 compare 0 a b c", "ask 1 register 0 1000 goes", "ask 1 register 0 1", "ask 1 register 0 1 gone", "ask 1 reserve 1 2", "ask 1 reserve 1 0",
		"ask 1 clear", "ask 1 preempt 1 1", "ask 1 state", "ask state", "ask ask 1 read 0",
		long("", api.MaxLine), long("", api.MaxLine+1), long("ask 1 write 0 ", api.MaxLine), long("ask 1 write 0 ", api.MaxLine+1), long("state ", 1000),
		"state" + strings.Repeat(" ", api.MaxLine), "deliver " + strings.Repeat("0", api.MaxLine), "up 99999999999999999999999999999999999999999999999999999999999",
	}
	for _, word := range []string{"state", "keys", "epoch", "waits", "flying", "group", "power", "again"} {
		for _, line := range []string{" W", "W ", "W 0", "W W", "W\n", "\tW", "W;", "ask W"} {
			l = append(l, strings.ReplaceAll(line, "W", word))
		}
	}
	for _, word := range []string{"deliver", "copy", "lose", "up", "down", "sync", "done", "restart", "arm"} {
		for _, line := range []string{"W", "W ", "W  0", " W 0", "W 0 ", "W 0 0", "W 00", "W 01", "W 007", "W +0", "W +1", "W -0", "W -1", "W 1000", "W 4294967296", "W 18446744073709551616", "W 0x1", "W 1.0", "W 1e0", "W 1_0", "W x", "W \u0661", "W\t0", "W0", "W,0", "W 0\n", "W 0\x00"} {
			l = append(l, strings.ReplaceAll(line, "W", word))
		}
	}
	return l
}

// L2, Z1: a line that is none, or too long, is answered by ErrText, and changes nothing.
func TestWrongLines(t *testing.T) {
	first := []string{"ask 1 register 0 1 stays", "ask 2 register 0 2 stays", "ask 1 reserve 1 5", "ask 1 write 0 hay", "ask 1 write 1 oats", "deliver 0", "deliver 0", "ask 1 preempt 1 2 6", "down 2"}
	last := []string{"state", "keys", "epoch", "waits", "flying", "group", "done 1", "done 2", "ask 1 read 0", "ask 2 read 0", "ask 2 read 0"}
	want := run(t, slices.Concat(first, last)...)
	for _, line := range wrongLines() {
		l := run(t, slices.Concat(first, []string{line}, last)...)
		if got := l[len(first)]; got != "error 3" {
			t.Errorf("%q => %s", line, got)
		}
		if got := slices.Delete(l, len(first), len(first)+1); !slices.Equal(got, want) {
			t.Errorf("behind %q: %q, want %q", line, got, want)
		}
	}
}

// L1: numbers go from 0 to 999, in every line that has one.
func TestNumbers(t *testing.T) {
	for _, n := range []int{0, 1, 2, 3, 4, 9, 10, 39, 40, 41, 63, 64, 99, 100, 101, 998, 999, 1000, 1001} {
		has := func(most int, want string) string {
			switch {
			case n > 999:
				return "error 3"
			case n > most:
				return "error 8"
			}
			return want
		}
		for _, x := range []struct{ word, want string }{
			{"deliver", has(5, "yes")},
			{"copy", has(5, "yes")},
			{"lose", has(5, "ok")},
			{"up", has(2, "ok")},
			{"down", has(2, "ok")},
			{"sync", has(2, "error 7")},
			{"done", has(999, "no")},
			{"restart", has(999, "ok")},
			{"arm", has(999, "ok")},
		} {
			line := fmt.Sprint(x.word, " ", n)
			if got := run(t, "ask 1 write 0 a", "ask 1 write 0 b", line)[2]; got != x.want {
				t.Errorf("%s => %s, want %s", line, got, x.want)
			}
		}
	}
}

// L1: of each command what is answered, and by ask alone one is done.
func TestAsk(t *testing.T) {
	session(t, `
		ask 1 register 0 1 goes => ok
		ask 2 ignore 9 2 stays => ok
		ask 3 register 0 999 goes => ok
		state => 3 0 0 goes 1:1 2:2 3:999
		keys => 1 2 999
		ask 1 reserve 1 1 => ok
		state => 3 1 1 goes 1:1 2:2 3:999
		ask 1 release 1 1 => ok
		ask 2 preempt 2 1 3 => ok
		state => 4 0 0 goes 2:2 3:999
		ask 1 read 0 => told 1
		ask 1 read 0 => data -
		ask 1 write 7 abcdefgh => waits 1
		ask 1 write 7 - => waits 2
		ask 1 compare 6 - - => waits 3
		ask 1 compare 6 a b => error 7
		waits => 1 2 3
		flying => 0 7 3 1 1 abcdefgh; 1 7 3 1 1 abcdefgh; 2 7 3 1 1 abcdefgh; 0 7 3 2 2 -; 1 7 3 2 2 -; 2 7 3 2 2 -; 0 6 3 3 3 -; 1 6 3 3 3 -; 2 6 3 3 3 -
		deliver 0 => yes
		ask 4 read 7 => data abcdefgh
		deliver 3 => yes
		waits => 1 2 3
		deliver 2 => yes
		waits => 1 3
		done 2 => yes
		ask 4 read 7 => data -
		ask 3 clear 999 => ok
		ask 2 clear 2 => told 3
		ask 2 clear 2 => error 4
		state => 5 0 0 goes
		keys => -`)
}

// L1: a key by which two are known is told once; a list of one has nothing between.
func TestKeys(t *testing.T) {
	session(t, `
		ask 4 register 0 20 goes => ok
		keys => 20
		ask 2 register 0 20 goes => ok
		keys => 20
		ask 1 register 0 100 goes => ok
		ask 3 register 0 3 goes => ok
		keys => 3 20 100`)
}

// L2: errors by their numbers, and none of them changes anything.
func TestErrors(t *testing.T) {
	session(t, `
		ask 1 register 5 1 goes => error 4
		ask 1 reserve 1 1 => error 4
		ask 1 register 0 1 goes => ok
		ask 1 preempt 1 0 1 => error 5
		ask 1 reserve 1 3 => ok
		ask 1 release 1 1 => error 5
		ask 1 reserve 1 1 => error 4
		ask 2 read 0 => error 4
		ask 2 write 0 a => error 4
		ask 2 compare 0 a - => error 4
		ask 1 compare 0 a b => error 9
		deliver 0 => error 8
		copy 0 => error 8
		lose 0 => error 8
		up 3 => error 8
		down 3 => error 8
		sync 3 => error 8
		sync 0 => error 7
		state => 1 3 1 goes 1:1
		epoch => 3
		flying => -
		group => 3 up; 3 up; 3 up`)
}

// L2: without room for what waits, or flies.
func TestFull(t *testing.T) {
	session(t, `
		ask 1 write 0 a => waits 1
		ask 1 write 0 b => waits 2
		ask 1 write 0 c => waits 3
		ask 1 write 0 d => waits 4
		ask 1 write 0 e => waits 5
		ask 1 write 0 f => waits 6
		ask 1 write 0 g => error 6
		ask 1 compare 1 g - => error 6
		power => ok
		waits => -
		ask 2 write 0 g => told 4
		ask 2 write 0 g => waits 7
		ask 2 write 0 h => waits 8
		ask 2 write 0 i => waits 9
		ask 2 write 0 j => waits 10
		ask 2 write 0 k => waits 11
		ask 2 write 0 l => waits 12
		copy 35 => yes
		power => ok
		ask 3 read 0 => told 4
		ask 3 write 0 m => waits 13
		ask 3 write 0 n => error 6
		lose 38 => ok
		lose 0 => ok
		ask 3 write 0 n => waits 14
		ask 3 write 0 o => error 6`)
}

// L1: deliver takes what flies away, copy leaves it, lose takes it unseen; what is done isn't undone.
func TestMessages(t *testing.T) {
	session(t, `
		ask 1 write 3 hay => waits 1
		copy 1 => yes
		copy 1 => yes
		done 1 => no
		flying => 0 3 2 1 1 hay; 1 3 2 1 1 hay; 2 3 2 1 1 hay
		lose 0 => ok
		flying => 1 3 2 1 1 hay; 2 3 2 1 1 hay
		deliver 0 => yes
		done 1 => no
		down 2 => ok
		copy 0 => no
		up 2 => ok
		copy 0 => yes
		done 1 => yes
		waits => -
		flying => 2 3 2 1 1 hay
		deliver 0 => yes
		flying => -
		done 1 => yes
		done 2 => no`)
}

// L1: one that stayed behind is synced, and what there is of the group.
func TestGroup(t *testing.T) {
	session(t, `
		down 0 => ok
		group => 2 down; 2 up; 2 up
		power => ok
		group => 2 down; 3 up; 3 up
		sync 0 => error 7
		up 0 => ok
		group => 2 up; 3 up; 3 up
		down 1 => ok
		sync 0 => error 7
		ask 1 read 0 => told 4
		ask 1 read 0 => error 7
		up 1 => ok
		up 1 => ok
		sync 0 => ok
		sync 0 => error 7
		group => 3 up; 3 up; 3 up`)
}

// L1, Z1: again and restart make another target of what is kept; without most the old one goes on, with all that flies, waits, and is to be told.
func TestAgain(t *testing.T) {
	for _, line := range []string{"again", "restart 0", "restart 1", "restart 999"} {
		session(t, strings.ReplaceAll(`
			ask 1 register 0 1 goes => ok
			ask 2 register 0 2 goes => ok
			ask 1 preempt 1 2 1 => ok
			ask 3 write 0 a => waits 1
			ask 3 write 0 b => waits 2
			deliver 0 => yes
			deliver 0 => yes
			down 0 => ok
			down 1 => ok
			AGAIN => error 7
			epoch => 2
			waits => 2
			flying => 2 0 2 1 1 a; 0 0 2 2 2 b; 1 0 2 2 2 b; 2 0 2 2 2 b
			done 1 => yes
			group => 2 down; 2 down; 2 up
			up 0 => ok
			ask 3 read 0 => data a
			AGAIN => ok
			epoch => 3
			group => 3 up; 2 down; 3 up
			state => 3 0 0 goes 1:1
			waits => -
			flying => -
			done 1 => no
			ask 2 read 0 => data a
			ask 2 write 0 c => waits 1
			flying => 0 0 3 1 1 c; 1 0 3 1 1 c; 2 0 3 1 1 c`, "AGAIN", line))
	}
	session(t, `
		ask 1 register 0 1 goes => ok
		ask 2 register 0 2 goes => ok
		ask 1 preempt 1 2 1 => ok
		down 0 => ok
		down 1 => ok
		again => error 7
		ask 2 read 0 => told 1
		ask 2 read 0 => error 7`)
}

// Z2: what is handed in stays as it is, what stands behind it isn't read, and what comes out is the caller's.
func TestLists(t *testing.T) {
	all := []string{"ask 1 write 0 hay", "deliver 0", "ask 2 read 0", "state", "power", "power"}
	was := slices.Clone(all)
	got := run(t, all[:4]...)
	want := []string{"waits 1", "yes", "data hay", "0 0 0 goes"}
	if !slices.Equal(got, want) || !slices.Equal(all, was) {
		t.Fatalf("%q, and %q were %q", got, all, was)
	}
	clear(got[:cap(got)])
	if again := run(t, all[:4]...); !slices.Equal(again, want) || !slices.Equal(all, was) {
		t.Fatalf("%q, and %q were %q", again, all, was)
	}
}
