package target_test

import (
	"fmt"
	"maps"
	"slices"
	"testing"

	"kissinggate/api"
	"kissinggate/disk"
	"kissinggate/group"
	"kissinggate/hold"
	"kissinggate/keeper"
	"kissinggate/order"
	"kissinggate/replica"
	"kissinggate/report"
	"kissinggate/rights"
	"kissinggate/target"
)

// die: numbers that look drawn, the same each time.
type die uint64

func (d *die) n(most int) int {
	*d = *d*6364136223846793005 + 1442695040888963407
	return int(uint64(*d>>33) % uint64(most))
}

// written: the how manieth of all writes it was, and where.
type written struct{ n, at int }

// walk: a target to which much is done, and what is known of it from outside.
type walk struct {
	*rig
	die
	all    map[string]int        // which one of all writes it was that has this data
	newest [api.MaxAt + 1]int    // of each block the last one
	sure   [api.MaxAt + 1]int    // of each block: this one is read, or a later one
	tags   []written             // by tag, from 1 on
	has    map[int]map[int]bool  // by tag that waits, who of the group has it
	old    map[string]bool       // what was written in epochs that are over
	box    [api.MaxWho + 1][]int // what is to be told to each
}

func newWalk(t *testing.T, seed int) *walk {
	w := &walk{rig: fresh(t), die: die(seed), all: map[string]int{"": 0}, old: map[string]bool{}}
	w.fresh()
	return w
}

// fresh: what another target forgets.
func (w *walk) fresh() {
	w.over()
	w.tags = nil
	w.box = [api.MaxWho + 1][]int{}
}

// over: an epoch is.
func (w *walk) over() {
	w.has = map[int]map[int]bool{}
	for data := range w.all {
		w.old[data] = true
	}
}

// word: data that no other write has.
func word(n int) string {
	if n == 0 {
		return ""
	}
	return word(n/26) + string(rune('a'+n%26))
}

// state that a walk's target has, as a text.
func (w *walk) state() string { return report.Text(w.u.State()) }

// most: do most take part?
func (w *walk) most() bool { return len(w.u.Group().Members(w.u.Epoch())) >= api.Most }

// check that something is so.
func (w *walk) check(ok bool, what ...any) {
	w.t.Helper()
	if !ok {
		w.t.Fatal(what...)
	}
}

// command that may be; most keys are those by which somebody is known.
func (w *walk) command() api.Command {
	s := w.u.State()
	c := api.Command{Op: []int{1, 1, 2, 3, 3, 4, 5, 6, 6, 7, 7, 7, 8, 8, 8, 9, 9}[w.n(17)], Who: 1 + w.n(api.MaxWho)}
	key, held := hold.Key(s, c.Who), []int{1, 3, 5, 6, 7, 8}[w.n(6)]
	if w.n(6) == 0 {
		key = w.n(4)
	}
	switch c.Op {
	case api.Register, api.Ignore:
		c.Key, c.New, c.Stays = key, w.n(4), w.n(2) == 0
	case api.Reserve:
		c.Key, c.Type = key, held
	case api.Release:
		c.Key, c.Type = key, held
		if s.Type != 0 && w.n(3) > 0 {
			c.Type = s.Type
		}
	case api.Clear:
		c.Key = key
	case api.Preempt:
		c.Key, c.New, c.Type = key, []int{0, 1, 2, 3, hold.Key(s, s.Holder)}[w.n(5)], held
	default:
		c.At = w.n(3)
		if c.Op != api.Read {
			c.Data = word(len(w.all))
		}
		if c.Op == api.Compare {
			c.Want = word([]int{w.sure[c.At], w.newest[c.At], 0}[w.n(3)])
		}
	}
	return c
}

// ask for something.
func (w *walk) ask() {
	c := w.command()
	s, epoch, was, most, room := w.u.State(), w.u.Epoch(), w.picture(), w.most(), w.room()
	flies := slices.ContainsFunc(w.u.Flying(), func(m api.Message) bool { return m.At == c.At && m.Cell.Epoch == epoch })
	data, tag, what, err := w.u.Ask(c)
	w.check(err == nil || data == "" && tag == 0 && what == 0, c, "with", err, data, tag, what)
	w.check(err == nil || w.picture() == was, c, "with", err, "changes", was, w.picture())
	if l := w.box[c.Who]; len(l) > 0 {
		w.check(what == l[0] && tag == 0 && data == "" && err == nil && w.picture() == was, "W4:", c, "is told", what, tag, data, err, "of", l)
		w.box[c.Who] = l[1:]
		return
	}
	w.check(what == 0, c, "is told", what)
	if c.Op <= api.Preempt {
		w.ordered(c, s, epoch, most, err)
		return
	}
	switch {
	case !rights.May(s, c.Who, c.Op != api.Read):
		w.check(err == api.ErrConflict, "W3:", c, "in", s, err)
	case !most:
		w.check(err == api.ErrBusy, c, "without most", err)
	case c.Op == api.Read:
		w.check(err == nil && tag == 0, c, err, tag)
		w.seen(c.At, data)
	case c.Op == api.Compare && flies:
		w.check(err == api.ErrBusy, c, "while it flies", err)
	case c.Op == api.Compare && err == api.ErrDiffer:
		n := w.all[c.Want]
		w.check(n != w.newest[c.At] || n != w.sure[c.At], "W2:", c, err)
	case !room:
		w.check(err == api.ErrFull, c, "without room", err)
	default:
		w.check(err == nil, c, err)
		if c.Op == api.Compare {
			w.seen(c.At, c.Want)
		}
		w.wrote(c, tag)
	}
}

// room for another write.
func (w *walk) room() bool {
	return len(w.u.Waiting()) < api.MaxWaiting && len(w.u.Flying())+api.Many <= api.MaxFlying
}

// seen: that is what a block has.
func (w *walk) seen(at int, data string) {
	w.t.Helper()
	n, ok := w.all[data]
	w.check(ok && n >= w.sure[at] && n <= w.newest[at], "W2: of", at, "there is", data, n, "between", w.sure[at], w.newest[at])
	w.sure[at] = n
}

// wrote: it waits.
func (w *walk) wrote(c api.Command, tag int) {
	n := len(w.all)
	w.all[c.Data], w.newest[c.At] = n, n
	w.tags = append(w.tags, written{n, c.At})
	w.check(tag == len(w.tags), c, "has the tag", tag)
	w.has[tag] = map[int]bool{}
	l := w.u.Flying()
	for i, m := range l[len(l)-api.Many:] {
		m.Cell.Number = 0
		w.check(m == api.Message{To: i, At: c.At, Cell: api.Cell{Epoch: w.u.Epoch(), Data: c.Data}, Tag: tag}, c, "flies as", m)
	}
}

// ordered: who is known, and holds, is as Do says, and in a new epoch just if somebody may do less.
func (w *walk) ordered(c api.Command, s api.State, epoch int, most bool, err error) {
	s2, tells, e := order.Do(s, c)
	if e != nil {
		w.check(err == e, c, err, "not", e)
		return
	}
	if less := order.Less(s, s2, rights.May); less && !most {
		w.check(err == api.ErrBusy, c, "without most", err)
		return
	} else if less {
		epoch++
		w.over()
	}
	w.check(err == nil && w.state() == report.Text(s2) && w.u.Epoch() == epoch, c, err, w.state(), w.u.Epoch())
	for _, x := range tells {
		w.tell(x.Who, x.What)
	}
}

// tell somebody: it is the last one of those that are to be told.
func (w *walk) tell(who, what int) {
	l := w.box[who]
	if len(l) > 0 && l[len(l)-1] == what {
		return
	}
	l = append(slices.Clone(l), what)
	w.box[who] = l[max(0, len(l)-api.MaxTells):]
}

// members: those who take part, and what they have.
func (w *walk) members() map[int]replica.Replica {
	l := map[int]replica.Replica{}
	for _, i := range w.u.Group().Members(w.u.Epoch()) {
		l[i] = w.u.Group().R[i]
	}
	return l
}

// deliver a message, or one that there isn't.
func (w *walk) deliver() {
	l, i, stays, was := w.u.Flying(), w.n(len(w.u.Flying())+1), w.n(4) == 0, w.members()
	ok, err := w.u.Deliver(i, stays)
	if i == len(l) {
		w.check(!ok && err == api.ErrNone, "there are", l, ok, err)
		return
	}
	m, g := l[i], w.u.Group()
	w.check(err == nil && ok == (g.Up[m.To] && g.R[m.To].Floor == m.Cell.Epoch), m, ok, err)
	w.check(!w.old[m.Cell.Data] || maps.Equal(was, w.members()), "W1:", m, "changes", was, w.members())
	if !stays {
		l = slices.Delete(l, i, i+1)
	}
	w.check(slices.Equal(l, w.u.Flying()), "there fly", w.u.Flying(), "not", l)
	has, waits := w.has[m.Tag]
	if !ok || !waits {
		return
	}
	has[m.To] = true
	if len(has) >= api.Most {
		delete(w.has, m.Tag)
		x := w.tags[m.Tag-1]
		w.check(w.u.Done(m.Tag), m, "is not done")
		w.sure[x.at] = max(w.sure[x.at], x.n)
	}
}

// sync one of the group.
func (w *walk) sync() {
	i, g, epoch, was := w.n(api.Many), w.u.Group(), w.u.Epoch(), w.members()
	can := g.Up[i] && w.most() && g.R[i].Floor < epoch
	err := w.u.Sync(i)
	if !can {
		w.check(err == api.ErrBusy && g == w.u.Group(), "sync", i, err)
		return
	}
	now := w.u.Group().R[i]
	w.check(err == nil && now.Floor == epoch, "sync", i, err, now)
	for at, c := range now.Cells {
		found := false
		for _, r := range was {
			w.check(!replica.Newer(r.Cells[at], c), "W6:", i, "has", c, "others", r.Cells[at])
			found = found || r.Cells[at] == c
		}
		w.check(found, "W6:", i, "alone has", c)
	}
}

// withoutPower: the state that is left.
func withoutPower(s api.State) api.State {
	if !s.Stays {
		return api.State{}
	}
	s.Gen = 0
	return s
}

// power is lost.
func (w *walk) power() {
	s, epoch, was, most := w.u.State(), w.u.Epoch(), w.picture(), w.most()
	err := w.u.Power()
	if !most {
		w.check(err == api.ErrBusy && w.picture() == was, "power", err)
		return
	}
	w.check(err == nil && w.u.Epoch() == epoch+1 && w.state() == report.Text(withoutPower(s)), "W5: power", err, w.state())
	w.over()
	for who := 1; who <= api.MaxWho; who++ {
		w.box[who] = []int{api.PowerLost}
	}
}

// anew: another target over the same disk and group.
func (w *walk) anew() {
	s, epoch, most := w.state(), w.u.Epoch(), w.most()
	got := w.again()
	if !most {
		w.check(got == wrong(api.ErrBusy), "again", got)
		return
	}
	w.check(got == "ok" && w.state() == s && w.u.Epoch() == epoch+1 && len(w.u.Flying()) == 0, "again", got, w.state())
	w.fresh()
}

// fall of the disk, at any step of something that changes what is kept, with any of what was written kept; then all are up, and there is another target.
func (w *walk) fall() {
	s, g := w.u.State(), w.u.Group()
	would, do := w.something()
	w.d.Arm(w.n(6))
	do()
	fell := w.d.Down()
	if !fell || w.n(2) == 0 {
		g = w.u.Group()
	}
	w.d.Restart(uint64(w.n(4)))
	for i := range api.Many {
		g.Up[i] = true
	}
	u, err := target.New(w.d, g)
	w.check(err == nil, "W5: behind a fall:", err, groupText(g))
	w.u = u
	w.check(w.state() == report.Text(would) || fell && w.state() == report.Text(s), "W5: from", s, "to", would, "a fall leaves", w.state())
	w.fresh()
}

// something that changes what is kept: which state it would lead to, and how it is done.
func (w *walk) something() (api.State, func()) {
	s, most := w.u.State(), w.most()
	if !most || w.n(3) == 0 {
		return s, func() { _, _ = target.New(w.d, w.u.Group()) }
	}
	if w.n(3) == 0 {
		return withoutPower(s), func() { _ = w.u.Power() }
	}
	for {
		c := w.command()
		if c.Op > api.Preempt || len(w.box[c.Who]) > 0 {
			if w.n(20) == 0 {
				return s, func() {}
			}
			continue
		}
		would, _, err := order.Do(s, c)
		if err != nil {
			would = s
		}
		return would, func() { _, _, _, _ = w.u.Ask(c) }
	}
}

// step: something is done.
func (w *walk) step() {
	switch w.n(30) {
	case 0:
		_ = w.u.Lose(w.n(api.MaxFlying))
	case 1, 2, 3:
		i, up := w.n(api.Many), w.n(3) > 0
		w.check(w.u.Up(i, up) == nil && w.u.Group().Up[i] == up, "up", i, up)
	case 4, 5:
		w.sync()
	case 6:
		w.power()
	case 7:
		if w.n(3) == 0 {
			w.anew()
		}
	case 8:
		if w.n(3) == 0 {
			w.fall()
		}
	case 9, 10, 11, 12, 13, 14, 15, 16:
		w.deliver()
	default:
		w.ask()
	}
	w.check(slices.Equal(w.u.Waiting(), slices.Sorted(maps.Keys(w.has))), "there wait", w.u.Waiting(), "not", w.has)
	w.check(hold.Check(w.u.State()) == nil, "the state", w.state())
}

// end: all are up, and take part, and every block is read.
func (w *walk) end() {
	g := w.u.Group()
	for i := range api.Many {
		g.Up[i] = true
	}
	u, err := target.New(w.d, g)
	w.check(err == nil, "at the end", err)
	w.u = u
	who := 1
	for !rights.May(w.u.State(), who, false) {
		who++
	}
	for at := range w.sure {
		data, _, _, err := w.u.Ask(api.Command{Op: api.Read, Who: who, At: at})
		w.check(err == nil, "at the end", err)
		w.seen(at, data)
	}
}

// W1 to W6, K1 to K7, Z1: whatever is done, in whatever order.
func TestWalks(t *testing.T) {
	for seed := range 200 {
		t.Run(fmt.Sprint(seed), func(t *testing.T) {
			w := newWalk(t, seed)
			for range 300 {
				w.step()
			}
			w.end()
		})
	}
}

// W1: who was kept out writes nothing more, however often it comes, and to whomever; who stayed behind may take it, and loses it when it takes part again.
func TestKeptOutStaysOut(t *testing.T) {
	for _, out := range []string{"ask 1 preempt 1 2 5", "ask 1 preempt 1 1 1", "ask 2 register 2 0 goes", "ask 2 ignore 9 0 goes"} {
		for down := range api.Many + 1 {
			x := over(t, 1, "0 5 1 goes 1:1 2:2")
			x.session("ask 2 write 0 old => waits 1")
			_ = x.u.Up(down, false)
			x.session(out + " => ok")
			_ = x.u.Up(down, true)
			for i := range api.Many {
				for range 3 {
					ok, err := x.u.Deliver(i, true)
					if ok != (i == down) || err != nil {
						t.Fatalf("%s: to %d: %v, %v, while %d was down", out, i, ok, err, down)
					}
				}
				x.session("ask 1 read 0 => ok")
			}
			_ = x.u.Sync(down)
			x.session(`
				ask 1 read 0 => ok
				cells 0 => 0 0 -; 0 0 -; 0 0 -
				done 1 => no`)
		}
	}
}

// W2: what is done is read by whichever most are up, and in every later epoch.
func TestDoneIsRead(t *testing.T) {
	for lost := range api.Many {
		for down := range api.Many {
			x := fresh(t)
			x.session("ask 1 write 0 hay => waits 1\nlose " + fmt.Sprint(lost) + " => ok\ndeliver 0 => yes\ndeliver 0 => yes\ndone 1 => yes")
			_ = x.u.Up(down, false)
			x.session(`
				power => ok
				ask 1 read 0 => told 4
				ask 1 read 0 => data hay
				again => ok
				ask 2 read 0 => data hay`)
			_ = x.u.Up(down, true)
			_ = x.u.Up((down+1)%api.Many, false)
			_ = x.u.Sync(down)
			x.refuses("ask 2 read 0", api.ErrBusy)
			_ = x.u.Up((down+1)%api.Many, true)
			x.session("sync " + fmt.Sprint(down) + " => ok")
			_ = x.u.Up((down+2)%api.Many, false)
			x.session("ask 2 read 0 => data hay")
		}
	}
}

// W4: who is put out is out, and is told of it by whatever they ask for next.
func TestPutOut(t *testing.T) {
	over(t, 1, "0 6 1 goes 1:1 2:2 3:2 4:4").session(`
		ask 1 preempt 1 2 6 => ok
		state => 1 6 1 goes 1:1 4:4
		ask 2 write 0 a => told 1
		ask 3 register 0 3 goes => told 1
		ask 2 write 0 a => error 4
		ask 2 read 0 => error 4
		ask 3 read 0 => error 4
		ask 4 read 0 => ok
		ask 3 register 0 3 goes => ok
		ask 3 read 0 => ok`)
}

// W5, K2: behind a fall at any step, with any of what was written kept: the state is as it was, or as it would have become, the new one just in its epoch, which is kept ahead of it.
func TestFalls(t *testing.T) {
	for _, state := range []string{"7 5 1 goes 1:1 2:2", "7 5 1 stays 1:1 2:2"} {
		for keep := range uint64(8) {
			for _, line := range []string{"ask 1 preempt 1 2 5", "ask 2 register 2 0 stays", "power", "again"} {
				seen := falls(t, line, state, keep)
				if !seen["6 "+state] {
					t.Fatalf("%s: the new epoch is not kept with the old state: %v", line, seen)
				}
			}
			for _, line := range []string{"ask 3 register 0 3 stays", "ask 1 clear 1", "ask 1 reserve 1 5"} {
				falls(t, line, state, keep)
			}
		}
	}
}

// falls: one at each of the steps that a line takes; which epochs and states are found behind them.
func falls(t *testing.T, line, state string, keep uint64) map[string]bool {
	t.Helper()
	x := over(t, 4, state)
	x.session(line + " => ok")
	would := x.do("epoch") + " " + x.do("state")
	seen := map[string]bool{}
	for n := 0; ; n++ {
		x = over(t, 4, state)
		x.session(`
			ask 1 write 0 hay => waits 1
			deliver 0 => yes
			deliver 0 => yes
			done 1 => yes`)
		before := x.u.Group()
		x.d.Arm(n)
		got := x.do(line)
		if got == "ok" {
			return seen
		}
		if got != wrong(api.ErrDown) || !x.d.Down() {
			t.Fatalf("%s: armed by %d => %s", line, n, got)
		}
		x.d.Restart(keep)
		k, err := keeper.Open(x.d)
		if err != nil {
			t.Fatalf("%s: a fall at %d, keep %d: Open: %v", line, n, keep, err)
		}
		now := fmt.Sprint(k.Epoch(), " ", report.Text(k.State()))
		if now != "5 "+state && now != would && (now != "6 "+state || would[0] != '6') {
			t.Fatalf("%s: a fall at %d, keep %d: %s is left", line, n, keep, now)
		}
		seen[now] = true
		for _, g := range []group.Group{before, x.u.Group()} {
			goesOn(t, copied(t, x.d), g, k)
		}
	}
}

// goesOn: behind a fall there is another target, with what the keeper found, and what was done is read.
func goesOn(t *testing.T, d *disk.Disk, g group.Group, k *keeper.Keeper) {
	t.Helper()
	u, err := target.New(d, g)
	if err != nil {
		t.Fatalf("New behind a fall: %v", err)
	}
	x := &rig{t, d, u}
	x.session(fmt.Sprintf("state => %s\nepoch => %d\nask 1 read 0 => data hay", report.Text(k.State()), k.Epoch()+1))
}

// copied: another disk with the same sectors.
func copied(t *testing.T, d *disk.Disk) *disk.Disk {
	t.Helper()
	c, err := disk.New(d.Sectors())
	if err != nil {
		t.Fatal(err)
	}
	for at := range d.Sectors() {
		data, err := d.Read(at)
		if err != nil {
			t.Fatal(err)
		}
		if err = c.Write(at, data); err != nil {
			t.Fatal(err)
		}
	}
	if err = c.Flush(); err != nil {
		t.Fatal(err)
	}
	return c
}
