package console_test

import (
	"fmt"
	"slices"
	"strconv"
	"strings"
	"testing"

	"kissinggate/api"
	"kissinggate/code"
	"kissinggate/console"
	"kissinggate/disk"
	"kissinggate/group"
	"kissinggate/hold"
	"kissinggate/keeper"
	"kissinggate/report"
	"kissinggate/target"
)

// die: numbers that look drawn, the same each time.
type die uint64

func (d *die) n(most int) int {
	*d = *d*6364136223846793005 + 1442695040888963407
	return int(uint64(*d>>33) % uint64(most))
}

// of: one of these.
func (d *die) of(l ...string) string { return l[d.n(len(l))] }

// walk: lines, and what is to be answered to each: a target beside the session tells it, to which the same is done without any line.
type walk struct {
	die
	t           *testing.T
	d           *disk.Disk
	u           *target.Target
	lines, want []string
}

func newWalk(t *testing.T, seed int) *walk {
	d, err := disk.New(api.Sectors)
	if err == nil {
		err = keeper.Format(d)
	}
	if err != nil {
		t.Fatal(err)
	}
	u, err := target.New(d, group.New())
	if err != nil {
		t.Fatal(err)
	}
	return &walk{die: die(seed), t: t, d: d, u: u}
}

// add a line, and its answer.
func (w *walk) add(line, want string, err error) {
	if err != nil {
		want = "error " + strings.TrimPrefix(err.Error(), "kissinggate: error ")
	}
	w.lines, w.want = append(w.lines, line), append(w.want, want)
}

func yes(ok bool) string {
	if ok {
		return "yes"
	}
	return "no"
}

func orNone(s string) string {
	if s == "" {
		return "-"
	}
	return s
}

// command that may be; most keys are those by which somebody is known.
func (w *walk) command() api.Command {
	s := w.u.State()
	c := api.Command{Op: []int{1, 1, 2, 3, 3, 4, 5, 6, 6, 7, 7, 7, 8, 8, 8, 9, 9}[w.n(17)], Who: 1 + w.n(api.MaxWho)}
	key, held := hold.Key(s, c.Who), []int{1, 3, 5, 6, 7, 8}[w.n(6)]
	if w.n(6) == 0 {
		key = w.n(4)
	}
	switch c.Op {
	case api.Register, api.Ignore:
		c.Key, c.New, c.Stays = key, w.n(4), w.n(2) == 0
	case api.Reserve, api.Release:
		c.Key, c.Type = key, held
		if c.Op == api.Release && s.Type != 0 && w.n(3) > 0 {
			c.Type = s.Type
		}
	case api.Clear:
		c.Key = key
	case api.Preempt:
		c.Key, c.New, c.Type = key, []int{0, 1, 2, 3, hold.Key(s, s.Holder)}[w.n(5)], held
	default:
		c.At = w.n(3)
		if c.Op != api.Read {
			c.Data = w.of("", "a", "hay", "abcdefgh")
		}
		if c.Op == api.Compare {
			c.Want = w.of("", "", "a", "hay")
		}
	}
	return c
}

func (w *walk) ask() {
	c := w.command()
	text, err := code.Text(c)
	if err != nil {
		w.t.Fatal(c, err)
	}
	data, tag, what, err := w.u.Ask(c)
	want := "ok"
	switch {
	case what != 0:
		want = "told " + strconv.Itoa(what)
	case c.Op == api.Write || c.Op == api.Compare:
		want = "waits " + strconv.Itoa(tag)
	case c.Op == api.Read:
		want = "data " + orNone(data)
	}
	w.add("ask "+text, want, err)
}

// look at one of the things that there are.
func (w *walk) look() {
	var l []string
	switch w.n(6) {
	case 0:
		w.add("state", report.Text(w.u.State()), nil)
	case 1:
		w.add("keys", orNone(strings.Trim(fmt.Sprint(report.Keys(w.u.State())), "[]")), nil)
	case 2:
		w.add("epoch", strconv.Itoa(w.u.Epoch()), nil)
	case 3:
		w.add("waits", orNone(strings.Trim(fmt.Sprint(w.u.Waiting()), "[]")), nil)
	case 4:
		for _, m := range w.u.Flying() {
			l = append(l, fmt.Sprintf("%d %d %d %d %d %s", m.To, m.At, m.Cell.Epoch, m.Cell.Number, m.Tag, orNone(m.Cell.Data)))
		}
		w.add("flying", orNone(strings.Join(l, "; ")), nil)
	case 5:
		g := w.u.Group()
		for i, r := range g.R {
			l = append(l, fmt.Sprintf("%d %s", r.Floor, map[bool]string{true: "up", false: "down"}[g.Up[i]]))
		}
		w.add("group", strings.Join(l, "; "), nil)
	}
}

// move messages, or the group.
func (w *walk) move() {
	n, i := w.n(len(w.u.Flying())+1), w.n(api.Many+1)
	switch w.n(9) {
	case 0, 1, 2:
		ok, err := w.u.Deliver(n, false)
		w.add(fmt.Sprint("deliver ", n), yes(ok), err)
	case 3:
		ok, err := w.u.Deliver(n, true)
		w.add(fmt.Sprint("copy ", n), yes(ok), err)
	case 4:
		w.add(fmt.Sprint("lose ", n), "ok", w.u.Lose(n))
	case 5:
		w.add(fmt.Sprint("up ", i), "ok", w.u.Up(i, true))
	case 6:
		w.add(fmt.Sprint("down ", i), "ok", w.u.Up(i, false))
	case 7:
		w.add(fmt.Sprint("sync ", i), "ok", w.u.Sync(i))
	case 8:
		w.add(fmt.Sprint("done ", n), yes(w.u.Done(n)), nil)
	}
}

// anew: power is lost, or there is another target.
func (w *walk) anew() {
	switch w.n(3) {
	case 0:
		w.add("power", "ok", w.u.Power())
	case 1:
		n := w.n(1000)
		w.d.Restart(uint64(n))
		w.add(fmt.Sprint("restart ", n), "ok", w.again())
	case 2:
		w.add("again", "ok", w.again())
	}
}

func (w *walk) again() error {
	u, err := target.New(w.d, w.u.Group())
	if err == nil {
		w.u = u
	}
	return err
}

// step: another line.
func (w *walk) step() {
	switch w.n(20) {
	case 0:
		w.anew()
	case 1, 2, 3, 4:
		w.look()
	case 5, 6, 7, 8, 9, 10:
		w.move()
	case 11:
		w.add(w.of(wrongLines()...), "error 3", nil)
	default:
		w.ask()
	}
}

// L1, L2, W1 to W6, Z2: whatever the lines are, they are answered by what a target says to which the same is done; and each of them by what stands ahead of it alone.
func TestWalks(t *testing.T) {
	for seed := range 300 {
		w := newWalk(t, seed)
		for range api.MaxLines {
			w.step()
		}
		got := run(t, w.lines...)
		for i := range got {
			if got[i] != w.want[i] {
				t.Fatalf("walk %d, line %d: %s => %s, want %s", seed, i, w.lines[i], got[i], w.want[i])
			}
		}
		n := w.n(len(got))
		if part := run(t, w.lines[:n]...); !slices.Equal(part, got[:n]) {
			t.Fatalf("walk %d: the first %d lines by themselves: %q, not %q", seed, n, part, got[:n])
		}
	}
}

// W1: who is kept out writes nothing more, whoever stayed behind, and however often it comes.
func TestKeptOutStaysOut(t *testing.T) {
	session(t, `
		ask 1 register 0 1 goes => ok
		ask 2 register 0 2 goes => ok
		ask 1 reserve 1 5 => ok
		ask 2 write 0 old => waits 1
		down 2 => ok
		ask 1 preempt 1 2 5 => ok
		copy 0 => no
		copy 0 => no
		copy 1 => no
		up 2 => ok
		copy 2 => yes
		ask 3 read 0 => data -
		waits => -
		done 1 => no
		sync 2 => ok
		copy 2 => no
		down 0 => ok
		ask 3 read 0 => data -`)
}

// W2, W6: what was done is read by whichever most are up, also in later epochs; who stayed behind takes part with what most have.
func TestDoneIsRead(t *testing.T) {
	session(t, `
		down 2 => ok
		ask 1 write 4 hay => waits 1
		deliver 0 => yes
		deliver 0 => yes
		done 1 => yes
		power => ok
		again => ok
		up 2 => ok
		group => 4 up; 4 up; 2 up
		down 0 => ok
		ask 1 read 4 => error 7
		sync 2 => error 7
		up 0 => ok
		sync 2 => ok
		down 0 => ok
		ask 1 read 4 => data hay
		down 1 => ok
		ask 1 read 4 => error 7
		up 0 => ok
		ask 1 read 4 => data hay`)
}

// W2: what was read once, if of one alone, is never older for other most.
func TestNeverOlder(t *testing.T) {
	session(t, `
		ask 1 write 0 hay => waits 1
		deliver 0 => yes
		down 2 => ok
		ask 2 read 0 => data hay
		up 2 => ok
		down 0 => ok
		ask 2 read 0 => data hay
		done 1 => no`)
}

// W3: who may not is told so, and nothing is done; who holds may do all.
func TestMay(t *testing.T) {
	for held, may := range map[string]string{"1": "data -, waits, data -, 4, data -, 4", "3": "data -, waits, 4, 4, 4, 4", "5": "data -, waits, data -, waits, data -, 4", "6": "data -, waits, data -, waits, 4, 4", "7": "data -, waits, data -, waits, data -, 4", "8": "data -, waits, data -, waits, 4, 4"} {
		lines := []string{"ask 1 register 0 1 goes", "ask 2 register 0 2 goes", "ask 1 reserve 1 " + held}
		for who := 1; who <= 3; who++ {
			lines = append(lines, fmt.Sprintf("ask %d read 0", who), fmt.Sprintf("ask %d write 0 a", who))
		}
		var got []string
		writes := 0
		for _, x := range run(t, append(lines, "flying")...)[3:] {
			switch {
			case strings.HasPrefix(x, "waits "):
				x = "waits"
				writes++
			case strings.HasPrefix(x, "error "):
				x = x[len("error "):]
			}
			got = append(got, x)
		}
		last := len(got) - 1
		if strings.Join(got[:last], ", ") != may || strings.Count(got[last], ";")+1 != writes*api.Many {
			t.Errorf("held by %s: %q, want %s", held, got, may)
		}
	}
}

// W4: who is put out is out, and is told of it first, whatever they ask for; more is told in order.
func TestToldFirst(t *testing.T) {
	for _, ask := range []string{"read 0", "write 0 a", "compare 0 a -", "register 0 2 goes", "ignore 0 2 goes", "reserve 2 1", "release 2 1", "clear 2", "preempt 2 1 1"} {
		session(t, `
			ask 1 register 0 1 goes => ok
			ask 2 register 0 2 goes => ok
			ask 1 reserve 1 6 => ok
			ask 1 release 1 6 => ok
			ask 1 preempt 1 2 6 => ok
			state => 3 0 0 goes 1:1
			ask 2 `+ask+` => told 2
			ask 2 `+ask+` => told 1
			state => 3 0 0 goes 1:1
			flying => -
			ask 2 read 0 => data -`)
	}
	session(t, `
		ask 1 register 0 1 goes => ok
		ask 2 register 0 2 goes => ok
		ask 1 preempt 1 2 6 => ok
		power => ok
		ask 2 read 0 => told 4
		ask 2 read 0 => data -`)
}

// W5: power that is lost takes who is known, unless that stays.
func TestPower(t *testing.T) {
	session(t, `
		ask 1 register 0 1 stays => ok
		ask 1 reserve 1 3 => ok
		power => ok
		state => 0 3 1 stays 1:1
		ask 2 read 0 => told 4
		ask 2 read 0 => error 4
		ask 1 register 1 5 goes => told 4
		ask 1 register 1 5 goes => ok
		state => 1 3 1 goes 1:5
		power => ok
		state => 0 0 0 goes
		keys => -
		down 0 => ok
		down 1 => ok
		power => error 7`)
}

// W5: behind a fall at any step, with any of what was written kept, the state is as it was, or as it would have become, and what was done is read.
func TestFalls(t *testing.T) {
	first := []string{"ask 1 register 0 1 stays", "ask 2 register 0 2 stays", "ask 1 reserve 1 5", "ask 1 write 0 hay", "deliver 0", "deliver 0", "state"}
	for line, would := range map[string]string{"ask 1 preempt 1 2 5": "3 5 1 stays 1:1", "ask 2 register 2 0 goes": "3 5 1 goes 1:1", "ask 3 register 0 3 goes": "3 5 1 goes 1:1 2:2 3:3", "ask 1 clear 1": "3 0 0 stays", "power": "0 5 1 stays 1:1 2:2", "again": "2 5 1 stays 1:1 2:2"} {
		for keep := range 8 {
			seen := map[string]bool{}
			for steps := range 6 {
				l := run(t, slices.Concat(first, []string{fmt.Sprint("arm ", steps), line, fmt.Sprint("restart ", keep), "state", "ask 3 read 0"})...)[len(first)-1:]
				was, did, again, now, read := l[0], l[2], l[3], l[4], l[5]
				if now != would && (now != was || did == "ok") || again != "ok" || read != "data hay" {
					t.Fatalf("%s falls at %d, %d is kept: %q", line, steps, keep, l)
				}
				seen[did] = true
			}
			if !seen["ok"] || !seen["error 10"] || len(seen) != 2 {
				t.Fatalf("%s: %v", line, seen)
			}
		}
	}
}

// L1: arm and restart are those of the disk, by that number: behind a fall there is what a disk has to which the same is done.
func TestArmAndRestart(t *testing.T) {
	found := map[string]bool{}
	for steps := range 6 {
		for _, keep := range []int{0, 1, 2, 3, 998, 999} {
			w := newWalk(t, 0)
			w.d.Arm(steps)
			w.add(fmt.Sprint("arm ", steps), "ok", nil)
			_, _, _, err := w.u.Ask(api.Command{Op: api.Register, Who: 3, New: 3})
			w.add("ask 3 register 0 3 goes", "ok", err)
			w.d.Restart(uint64(keep))
			w.add(fmt.Sprint("restart ", keep), "ok", w.again())
			w.add("state", report.Text(w.u.State()), nil)
			w.add("epoch", strconv.Itoa(w.u.Epoch()), nil)
			if got := run(t, w.lines...); !slices.Equal(got, w.want) {
				t.Fatalf("%q => %q, want %q", w.lines, got, w.want)
			}
			if err != nil {
				found[report.Text(w.u.State())] = true
			}
		}
	}
	if len(found) != 2 {
		t.Fatalf("whatever is kept: %v", found)
	}
}

// L2, Z1: from an arm on, too, every line is answered, whatever stands ahead of it.
func TestAnsweredWhenArmed(t *testing.T) {
	for seed := range 300 {
		w := newWalk(t, seed)
		for range 40 {
			w.step()
			w.add(w.of("arm 0", "arm 1", "arm 2", "arm 3", "restart 0", "restart 1", "restart 999", "again", "power", "up 0", "up 1", "up 2", "ask 1 read 0", "ask 1 ignore 0 1 stays"), "", nil)
		}
		for i, got := range run(t, w.lines...) {
			if got == "" {
				t.Fatalf("%q: nothing is answered to line %d", w.lines, i)
			}
		}
	}
}

// Z1, L2: bytes that are no line are answered by ErrText, all of them.
func TestBytes(t *testing.T) {
	d := die(7)
	for range 300 {
		var lines []string
		for range api.MaxLines {
			b := make([]byte, d.n(70))
			for i := range b {
				b[i] = byte(d.n(256))
			}
			lines = append(lines, "!"+string(b))
		}
		for i, got := range run(t, lines...) {
			if got != "error 3" {
				t.Fatalf("%q => %s", lines[i], got)
			}
		}
	}
}

// FuzzRun: every session ends with an answer to each of its lines, or with ErrMany.
func FuzzRun(f *testing.F) {
	f.Add("ask 1 write 0 hay\ndeliver 0\ncopy 0\nrestart 0\nstate")
	f.Add(strings.Join(wrongLines()[:api.MaxLines], "\n"))
	f.Fuzz(func(t *testing.T, text string) {
		lines := strings.Split(text, "\n")
		l, err := console.Run(lines)
		if len(lines) > api.MaxLines && (err != api.ErrMany || len(l) != 0) {
			t.Fatalf("%d lines: %q, %v", len(lines), l, err)
		}
		if len(lines) <= api.MaxLines && (err != nil || len(l) != len(lines) || slices.Contains(l, "")) {
			t.Fatalf("%q, %v", l, err)
		}
	})
}
