package target_test

import (
	"fmt"
	"math"
	"reflect"
	"strconv"
	"strings"
	"testing"

	"kissinggate/api"
	"kissinggate/disk"
	"kissinggate/group"
	"kissinggate/keeper"
	"kissinggate/report"
	"kissinggate/target"
)

// odd numbers: of no message, of none of the group, of no tag.
func odd() []int {
	return []int{math.MinInt, -1 << 32, -2, -1, api.Many, api.MaxFlying, 1 << 32, math.MaxInt}
}

// K1: over a formatted disk and a new group, there is nothing yet, but the epoch that has begun.
func TestNew(t *testing.T) {
	x := fresh(t)
	x.session(`
		state => 0 0 0 goes
		epoch => 2
		group => 2 up; 2 up; 2 up
		flying => -
		waits => -
		done 0 => no
		done 1 => no
		ask 1 read 0 => ok
		ask 2 read 7 => ok
		ask 3 read 0 => ok
		ask 4 read 7 => ok`)
}

// K1, K2: each target begins an epoch with the state that is kept, and both are kept then.
func TestNewGoesOn(t *testing.T) {
	for _, state := range []string{"0 0 0 goes", "0 0 0 stays", "7 0 0 goes 1:11", "8 1 2 stays 2:5 3:5", "1000000000 8 0 stays 1:999 2:999 3:999 4:999"} {
		for _, epoch := range []int{1, 2, 17, api.MaxEpoch - 2} {
			x := over(t, epoch, state)
			for i := range 2 {
				want := fmt.Sprint(epoch+1+i, " ", state)
				if got := x.do("epoch") + " " + x.do("state"); got != want {
					t.Fatalf("a new target has %s, want %s", got, want)
				}
				k, err := keeper.Open(x.d)
				if err != nil || fmt.Sprint(k.Epoch(), " ", report.Text(k.State())) != want {
					t.Fatalf("its disk has %v, %v, want %s", k, err, want)
				}
				if i == 0 {
					x.session("again => ok")
				}
			}
		}
	}
}

// K1, H1: what Open says goes ahead of what the group says, and there is no target.
func TestNewWithoutKeeper(t *testing.T) {
	busy := floors(9, 9, 9)
	blank, _ := disk.New(api.Sectors)
	down := keeping(t, 1, api.State{})
	down.Arm(0)
	_ = down.Flush()
	for _, g := range []group.Group{group.New(), busy} {
		if u, err := target.New(blank, g); u != nil || err != api.ErrText {
			t.Fatalf("New over a disk of noughts = %v, %v", u, err)
		}
		if u, err := target.New(down, g); u != nil || err != api.ErrDown {
			t.Fatalf("New over a disk that is down = %v, %v", u, err)
		}
	}
}

// K1, K2: most must be of the epoch, or of the one ahead, and up; else there is no target, and what is kept stays.
func TestNewIsReady(t *testing.T) {
	cases := []struct {
		floors [3]int
		down   int // below 0: none is
		want   string
	}{
		{[3]int{5, 5, 5}, -1, "6 up; 6 up; 6 up"},
		{[3]int{5, 5, 5}, 1, "6 up; 5 down; 6 up"},
		{[3]int{4, 4, 4}, -1, "6 up; 6 up; 6 up"},
		{[3]int{4, 4, 4}, 0, "4 down; 6 up; 6 up"},
		{[3]int{5, 5, 4}, -1, "6 up; 6 up; 4 up"},
		{[3]int{4, 5, 5}, 0, "4 down; 6 up; 6 up"},
		{[3]int{9, 5, 5}, -1, "9 up; 6 up; 6 up"},
		{[3]int{6, 4, 4}, -1, "6 up; 6 up; 6 up"},
		{[3]int{math.MinInt, 5, 5}, -1, fmt.Sprint(math.MinInt, " up; 6 up; 6 up")},
		{[3]int{5, 5, 4}, 0, "error 7"},
		{[3]int{5, 4, 3}, -1, "error 7"},
		{[3]int{3, 3, 3}, -1, "error 7"},
		{[3]int{6, 6, 6}, -1, "error 7"},
		{[3]int{0, 0, 0}, -1, "error 7"},
		{[3]int{math.MaxInt, math.MinInt, 5}, -1, "error 7"},
	}
	for _, c := range cases {
		d := keeping(t, 5, api.State{Gen: 3})
		g := floors(c.floors[:]...)
		if c.down >= 0 {
			g.Up[c.down] = false
		}
		was := g
		u, err := target.New(d, g)
		got := wrong(err)
		if err == nil {
			got = groupText(u.Group())
		}
		if got != c.want || (u == nil) != (err != nil) || g != was {
			t.Fatalf("New over %s: %s, want %s", groupText(was), got, c.want)
		}
		if k, e := keeper.Open(d); err != nil && (e != nil || k.Epoch() != 5 || k.State().Gen != 3) {
			t.Fatalf("New over %s fails, and leaves %v, %v", groupText(was), k, e)
		}
	}
}

// K1: what was to be told, flew or waited with another target, and its tags, are no more; what was written stays.
func TestNewForgets(t *testing.T) {
	x := over(t, 1, "0 5 1 goes 1:1 2:2 3:3")
	x.session(`
		ask 2 write 0 hay => waits 1
		deliver 0 => yes
		deliver 0 => yes
		ask 2 write 1 oats => waits 2
		ask 1 preempt 1 2 5 => ok
		ask 3 write 2 corn => waits 3
		done 1 => yes
		again => ok
		flying => -
		waits => -
		done 1 => no
		done 3 => no
		ask 2 read 0 => data hay
		ask 1 write 0 new => waits 1
		flying => 0 0 4 1 1 new; 1 0 4 1 1 new; 2 0 4 1 1 new
		waits => 1`)
}

// K1: a number that is no tag's was not done.
func TestDoneOfNone(t *testing.T) {
	x := fresh(t)
	x.session(`
		ask 1 write 0 a => waits 1
		deliver 0 => yes
		deliver 0 => yes
		done 1 => yes`)
	for _, tag := range append(odd(), 0, 2) {
		if x.u.Done(tag) {
			t.Fatalf("Done(%d)", tag)
		}
	}
}

// K1: tags that wait rise, however they came and went.
func TestWaitingRises(t *testing.T) {
	x := fresh(t)
	for tag := 1; tag <= 30; tag++ {
		x.session(fmt.Sprintf("ask 1 write %d a => waits %d", tag%8, tag))
		if last := len(x.u.Flying()) - api.Many; tag%6 != 0 {
			x.session(fmt.Sprintf("deliver %d => yes\ndeliver %d => yes\nlose %d => ok", last, last, last))
		}
	}
	x.session(`
		waits => 6 12 18 24 30
		done 5 => yes
		done 6 => no
		done 29 => yes`)
}

// Z2: what comes out is the caller's, and what goes in is not kept.
func TestListsAreTheCallers(t *testing.T) {
	x := over(t, 1, "0 0 0 goes 1:1 2:2")
	x.session(`
		ask 1 write 0 hay => waits 1
		ask 1 write 1 oats => waits 2`)
	was := x.picture()
	l := x.u.Flying()
	for i := range l {
		l[i] = api.Message{To: 9}
	}
	_ = append(l[:0], api.Message{})
	s, w, g := x.u.State(), x.u.Waiting(), x.u.Group()
	s.Regs[0], w[0], g.R[0].Floor = api.Reg{Who: 4, Key: 4}, 9, 9
	if now := x.picture(); now != was {
		t.Fatalf("%s became %s", was, now)
	}
	l = x.u.Flying()
	before := fmt.Sprint(l)
	x.session(`
		deliver 0 => yes
		lose 2 => ok
		ask 1 write 2 corn => waits 3`)
	if fmt.Sprint(l) != before {
		t.Fatalf("what flew became %v", l)
	}
	s = x.u.State()
	before = report.Text(s)
	x.session("ask 1 clear 1 => ok")
	if report.Text(s) != before {
		t.Fatalf("the state that was became %v", s)
	}
}

// K2: a new epoch: its number, the fence, what waits; Numbers begin anew, tags don't, and what was done stays so.
func TestNewEpoch(t *testing.T) {
	x := over(t, 1, "0 0 0 goes 1:1 2:2")
	x.session(`
		ask 3 write 0 a => waits 1
		ask 3 write 0 b => waits 2
		deliver 0 => yes
		deliver 0 => yes
		waits => 2
		down 2 => ok
		ask 1 reserve 1 1 => ok
		epoch => 3
		group => 3 up; 3 up; 2 down
		waits => -
		done 1 => yes
		done 2 => no
		flying => 2 0 2 1 1 a; 0 0 2 2 2 b; 1 0 2 2 2 b; 2 0 2 2 2 b
		ask 1 write 0 c => waits 3
		flying => 2 0 2 1 1 a; 0 0 2 2 2 b; 1 0 2 2 2 b; 2 0 2 2 2 b; 0 0 3 1 3 c; 1 0 3 1 3 c; 2 0 3 1 3 c
		ask 1 write 1 d => waits 4
		waits => 3 4`)
	if m := x.u.Flying()[9]; m.Cell.Number != 2 || m.Tag != 4 {
		t.Fatalf("the second one of an epoch: %v", m)
	}
}

// K2: behind the last epoch there is none: whatever asks for one is told so, and nothing is changed; all else goes on.
func TestLastEpoch(t *testing.T) {
	x := over(t, api.MaxEpoch-1, "0 5 1 goes 1:1 2:2")
	x.session(`
		epoch => 1000000
		ask 2 write 0 a => waits 1
		deliver 0 => yes`)
	for _, line := range []string{"ask 1 preempt 1 2 5", "ask 2 register 2 0 goes", "power", "again"} {
		x.refuses(line, api.ErrFull)
	}
	x.session(`
		down 2 => ok
		ask 2 read 0 => data a
		ask 3 register 0 3 goes => ok
		state => 1 5 1 goes 1:1 2:2 3:3
		deliver 0 => yes
		done 1 => yes
		down 1 => ok`)
	for _, line := range []string{"ask 1 preempt 1 2 5", "power", "again"} {
		x.refuses(line, api.ErrBusy)
	}
}

// K3, A2: what may not be asked is told by Check's error, also where something is to be told, and that is told then.
func TestAskChecks(t *testing.T) {
	cases := []struct {
		c    api.Command
		want api.Errno
	}{
		{api.Command{}, api.ErrShape},
		{api.Command{Op: -1, Who: 2}, api.ErrShape},
		{api.Command{Op: 10, Who: 2}, api.ErrShape},
		{api.Command{Op: math.MaxInt, Who: 2}, api.ErrShape},
		{api.Command{Op: math.MinInt, Who: 2}, api.ErrShape},
		{api.Command{Op: api.Read, Who: 0}, api.ErrBound},
		{api.Command{Op: api.Read, Who: 5}, api.ErrBound},
		{api.Command{Op: api.Read, Who: math.MinInt}, api.ErrBound},
		{api.Command{Op: api.Read, Who: math.MaxInt}, api.ErrBound},
		{api.Command{Op: api.Read, Who: 2, At: -1}, api.ErrBound},
		{api.Command{Op: api.Read, Who: 2, At: 8}, api.ErrBound},
		{api.Command{Op: api.Write, Who: 2, At: math.MaxInt}, api.ErrBound},
		{api.Command{Op: api.Write, Who: 2, At: math.MinInt}, api.ErrBound},
		{api.Command{Op: api.Read, Who: 2, Data: "a"}, api.ErrShape},
		{api.Command{Op: api.Write, Who: 2, Want: "a"}, api.ErrShape},
		{api.Command{Op: api.Write, Who: 2, Data: "A"}, api.ErrShape},
		{api.Command{Op: api.Write, Who: 2, Data: "abcdefghi"}, api.ErrBound},
		{api.Command{Op: api.Compare, Who: 2, Want: "abcdefghi"}, api.ErrBound},
		{api.Command{Op: api.Register, Who: 2, New: 1000}, api.ErrBound},
		{api.Command{Op: api.Reserve, Who: 2, Key: 2, Type: 2}, api.ErrShape},
		{api.Command{Op: api.Preempt, Who: 2, Key: -1, Type: 1}, api.ErrBound},
		{api.Command{Op: api.Clear, Who: 2, Key: 2, Stays: true}, api.ErrShape},
	}
	x := over(t, 1, "0 5 1 goes 1:1 2:2")
	x.session("ask 1 preempt 1 2 5 => ok")
	was := x.picture()
	for _, c := range cases {
		data, tag, what, err := x.u.Ask(c.c)
		if data != "" || tag != 0 || what != 0 || err != c.want {
			t.Fatalf("Ask(%v) = %q, %d, %d, %v, want %v", c.c, data, tag, what, err, c.want)
		}
		if now := x.picture(); now != was {
			t.Fatalf("Ask(%v) changes %s to %s", c.c, was, now)
		}
	}
	x.session("ask 2 read 0 => told 1")
}

// K3: what is to be told is all that an asking brings, whatever is asked, and whether it could be done or not.
func TestToldFirst(t *testing.T) {
	for _, what := range []string{"register 0 7 goes", "ignore 0 7 stays", "reserve 2 5", "release 9 6", "clear 9", "preempt 9 1 1", "read 0", "write 0 a", "compare 0 a b"} {
		for _, busy := range []bool{false, true} {
			x := over(t, 1, "0 0 0 goes 1:1 2:2 3:3")
			x.session("ask 1 clear 1 => ok")
			_ = x.u.Up(0, !busy)
			_ = x.u.Up(1, !busy)
			was := x.picture()
			x.session("ask 2 " + what + " => told 3")
			if now := x.picture(); now != was {
				t.Fatalf("%s, that isn't done, changes %s to %s", what, was, now)
			}
			if got := x.do("ask 2 " + what); got == "told 3" {
				t.Fatalf("%s: %s once more", what, got)
			}
			x.session("ask 3 " + what + " => told 3")
		}
	}
}

// K3, K4, E1: what is to be told is told by and by, the eldest first, to each their own.
func TestToldInOrder(t *testing.T) {
	x := over(t, 1, "0 5 1 goes 1:1 2:2 3:3 4:4")
	x.session(`
		ask 1 preempt 1 1 6 => ok
		ask 1 preempt 1 3 6 => ok
		ask 1 release 1 6 => ok
		ask 1 clear 1 => ok
		ask 3 read 0 => told 2
		ask 2 read 0 => told 2
		ask 2 read 0 => told 3
		ask 2 read 0 => ok
		ask 3 write 0 a => told 1
		ask 3 write 0 a => waits 1
		ask 1 read 0 => ok
		ask 4 read 0 => told 2
		ask 4 read 0 => told 3
		ask 4 read 0 => ok`)
}

// K4: without anybody who may do less the state is kept, in the same epoch, even when most are down; what waits goes on.
func TestChangeWithoutEpoch(t *testing.T) {
	x := fresh(t)
	x.session(`
		ask 1 write 0 a => waits 1
		down 0 => ok
		down 1 => ok
		down 2 => ok
		ask 1 register 0 1 goes => ok
		ask 2 ignore 5 2 stays => ok
		state => 2 0 0 stays 1:1 2:2
		ask 2 clear 2 => ok
		state => 3 0 0 stays
		epoch => 2
		waits => 1
		ask 1 read 0 => told 3
		ask 1 read 0 => error 7
		ask 2 write 0 a => error 7
		ask 2 compare 0 a b => error 7`)
	if k, err := keeper.Open(x.d); err != nil || k.Epoch() != 2 || k.State().Gen != 3 {
		t.Fatalf("the disk has %v, %v", k, err)
	}
}

// K4: what lets somebody do less begins an epoch: if it can't, nothing is changed, and nobody is told anything.
func TestChangeWithEpoch(t *testing.T) {
	for _, line := range []string{"ask 1 preempt 1 2 5", "ask 1 preempt 1 1 1", "ask 2 register 2 0 goes", "ask 2 ignore 0 0 stays"} {
		x := over(t, 1, "0 5 1 goes 1:1 2:2 3:3")
		x.session(`
			ask 2 write 0 a => waits 1
			down 0 => ok
			down 2 => ok`)
		x.refuses(line, api.ErrBusy)
		x.session(`
			up 2 => ok
			ask 2 read 0 => ok
			ask 3 read 0 => ok
			waits => 1
			` + line + ` => ok
			epoch => 3
			waits => -
			group => 2 down; 3 up; 3 up`)
	}
}

// K4, D1: what can't be ordered is told by Do's error, and changes nothing.
func TestChangeRefused(t *testing.T) {
	x := over(t, 1, "4 5 1 goes 1:1 2:2 3:3")
	x.session("ask 2 write 0 a => waits 1")
	for line, e := range map[string]api.Errno{
		"1 register 0 5 goes": api.ErrConflict,
		"4 clear 4":           api.ErrConflict,
		"4 clear 0":           api.ErrConflict,
		"2 reserve 2 5":       api.ErrConflict,
		"2 reserve 3 5":       api.ErrConflict,
		"1 release 1 6":       api.ErrField,
		"1 preempt 1 0 5":     api.ErrField,
		"1 preempt 1 9 5":     api.ErrConflict,
	} {
		x.refuses("ask "+line, e)
		_ = x.u.Up(0, false)
		_ = x.u.Up(1, false)
		x.refuses("ask "+line, e)
		_ = x.u.Up(0, true)
		_ = x.u.Up(1, true)
	}
	x.session(`
		ask 2 read 0 => ok
		ask 3 read 0 => ok`)
}

// K4, W3: who may not use a block is told so, ahead of all else; who may, may.
func TestWhoMayNot(t *testing.T) {
	cases := []struct{ state, read, write string }{
		{"0 0 0 goes 1:1 2:2", "1234", "1234"},
		{"0 1 1 goes 1:1 2:2", "1234", "1"},
		{"0 3 1 goes 1:1 2:2", "1", "1"},
		{"0 5 1 goes 1:1 2:2", "1234", "12"},
		{"0 6 1 goes 1:1 2:2", "12", "12"},
		{"0 7 0 goes 1:1 2:2", "1234", "12"},
		{"0 8 0 goes 1:1 2:2", "12", "12"},
	}
	for _, c := range cases {
		for who := 1; who <= api.MaxWho; who++ {
			for what, all := range map[string]string{"read 0": c.read, "write 1 a": c.write, "compare 2 a -": c.write} {
				x := over(t, 1, c.state)
				line := fmt.Sprint("ask ", who, " ", what)
				if strings.Contains(all, strconv.Itoa(who)) {
					if got := x.do(line); got != "ok" && got != "waits 1" {
						t.Fatalf("%s: %s => %s", c.state, line, got)
					}
					continue
				}
				x.refuses(line, api.ErrConflict)
				x.session("down 0 => ok\ndown 1 => ok")
				x.refuses(line, api.ErrConflict)
			}
		}
	}
}

// The zero values of what a chapter doesn't name: each answer has its own part alone.
func TestAnswersAreBare(t *testing.T) {
	type answer struct {
		data      string
		tag, what int
		err       error
	}
	x := over(t, 1, "0 0 0 goes 1:1 2:2")
	ask := func(text string) (a answer) {
		a.data, a.tag, a.what, a.err = x.u.Ask(command(t, text))
		return a
	}
	steps := []struct {
		ask  string
		want answer
	}{
		{"3 write 0 hay", answer{tag: 1}},
		{"1 reserve 1 5", answer{}},
		{"1 write 0 hay", answer{tag: 2}},
		{"1 clear 1", answer{}},
		{"2 read 0", answer{what: 3}},
		{"2 read 0", answer{}},
		{"2 compare 0 a -", answer{err: api.ErrBusy}},
		{"2 compare 1 a b", answer{err: api.ErrDiffer}},
		{"2 compare 1 a -", answer{tag: 3}},
	}
	for _, s := range steps {
		if got := ask(s.ask); !reflect.DeepEqual(got, s.want) {
			t.Fatalf("%s: %v, want %v", s.ask, got, s.want)
		}
	}
}
