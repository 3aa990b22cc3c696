package group_test

import (
	"testing"

	"kissinggate/api"
	"kissinggate/group"
	"kissinggate/replica"
)

// message to one, of a block's cell.
func message(to, at, epoch, number int, data string) api.Message {
	return api.Message{To: to, At: at, Cell: api.Cell{Epoch: epoch, Number: number, Data: data}}
}

// fenced: most take part in that epoch.
func fenced(t *testing.T, g group.Group, epoch int) group.Group {
	t.Helper()
	g, ok := g.Fence(epoch)
	if !ok {
		t.Fatalf("Fence(%d) says no: %v", epoch, g)
	}
	return g
}

// delivered: it is admitted, or not.
func delivered(t *testing.T, g group.Group, m api.Message, want bool) group.Group {
	t.Helper()
	g, ok := g.Deliver(m)
	if ok != want {
		t.Fatalf("Deliver(%v) = %v", m, ok)
	}
	return g
}

// read: that is read.
func read(t *testing.T, g group.Group, epoch, at int, want string) group.Group {
	t.Helper()
	g, c, ok := g.Read(epoch, at)
	if !ok || c.Data != want {
		t.Fatalf("Read(%d, %d) = %v, %v, want %q", epoch, at, c, ok, want)
	}
	return g
}

// W1, W6: one that was down while the others were fenced admits what is old, and loses it when it takes part again.
func TestStrayIsLeftBehind(t *testing.T) {
	g := group.New()
	g = delivered(t, g, message(0, 0, 1, 1, "hay"), true)
	g = delivered(t, g, message(1, 0, 1, 1, "hay"), true)
	g.Up[2] = false
	g = fenced(t, g, 2)
	g.Up[2] = true
	for i := range api.Many {
		g = delivered(t, g, message(i, 0, 1, 2, "old"), i == 2)
	}
	if c := g.R[2].Cells[0]; c.Data != "old" {
		t.Fatalf("the one that stayed behind has %v", c)
	}
	g = read(t, g, 2, 0, "hay")
	g, ok := g.Sync(2, 2)
	if !ok || g.R[2] != g.R[0] {
		t.Fatalf("Sync = %v, %v", g, ok)
	}
	g = delivered(t, g, message(2, 0, 1, 2, "old"), false)
	g.Up[0] = false
	read(t, g, 2, 0, "hay")
}

// W6: what one alone had when it was read is with the next ones who are asked.
func TestReadIsReadAgain(t *testing.T) {
	g := delivered(t, group.New(), message(0, 3, 1, 1, "oats"), true)
	g.Up[2] = false
	g = read(t, g, 1, 3, "oats")
	g.Up[0], g.Up[2] = false, true
	g = read(t, g, 1, 3, "oats")
	g.Up[0], g.Up[1] = true, false
	read(t, g, 1, 3, "oats")
}

// J2: without most nobody is fenced, so nothing is half done; who is down stays behind until it is synced.
func TestFenceWithoutMost(t *testing.T) {
	g := group.New()
	g.Up[0], g.Up[1] = false, false
	if got, ok := g.Fence(2); ok || got != g {
		t.Errorf("Fence(2) = %v, %v", got, ok)
	}
	g.Up[1] = true
	g = fenced(t, g, 2)
	g.Up[0] = true
	g = fenced(t, g, 3)
	if g.R[0].Floor != 1 || g.R[1].Floor != 3 || g.R[2].Floor != 3 {
		t.Errorf("floors: %v", g)
	}
	g.Up[2] = false
	if got, ok := g.Sync(3, 0); ok || got != g {
		t.Errorf("Sync without most = %v, %v", got, ok)
	}
}

// walk: steps that look drawn, over one group, with what is known of it from outside.
type walk struct {
	t       *testing.T
	seed    uint64
	g       group.Group
	epoch   int
	number  int
	flying  []api.Message
	had     map[api.Cell]int        // by which of the group it was admitted, a bit each
	settled [api.MaxAt + 1]api.Cell // the newest one that most admitted, or that was read
	admits  int
	reads   int
	strays  int
}

func (w *walk) draw(most int) int {
	w.seed = w.seed*6364136223846793005 + 1442695040888963407
	return int(w.seed >> 33 % uint64(most))
}

// settle: from now on nothing elder is to be read there.
func (w *walk) settle(at int, c api.Cell) {
	if replica.Newer(c, w.settled[at]) {
		w.settled[at] = c
	}
}

func (w *walk) write() {
	w.number++
	at := w.draw(2)
	for i := range api.Many {
		w.flying = append(w.flying, message(i, at, w.epoch, w.number, string(rune('a'+w.number%26))))
	}
}

// deliver one of those that ever flew: late, and as often as it is drawn.
func (w *walk) deliver() {
	if len(w.flying) == 0 {
		return
	}
	m := w.flying[len(w.flying)-1-w.draw(min(len(w.flying), 30))]
	was := w.g
	g, ok := w.g.Deliver(m)
	w.g = g
	if !ok {
		return
	}
	w.admits++
	if m.Cell.Epoch < w.epoch {
		w.strays++
		for _, i := range w.g.Members(w.epoch) {
			if w.g.R[i] != was.R[i] {
				w.t.Fatalf("W1: in epoch %d %v changes %d: %v", w.epoch, m, i, w.g)
			}
		}
	}
	w.had[m.Cell] |= 1 << m.To
	if n := w.had[m.Cell]; n&(n-1) != 0 {
		w.settle(m.At, m.Cell)
	}
}

func (w *walk) fence() {
	g, ok := w.g.Fence(w.epoch + 1)
	w.g = g
	if ok {
		w.epoch++
		w.number = 0
	}
}

func (w *walk) read() {
	at := w.draw(2)
	g, c, ok := w.g.Read(w.epoch, at)
	w.g = g
	if !ok {
		return
	}
	w.reads++
	if replica.Newer(w.settled[at], c) {
		w.t.Fatalf("W6: in epoch %d at %d %v is read, and %v was there: %v", w.epoch, at, c, w.settled[at], w.g)
	}
	w.settle(at, c)
}

// W1, W6: whatever flies, however often, and whoever is up: what is old changes no member, and what most have is never lost.
func TestManySteps(t *testing.T) {
	admits, reads, strays := 0, 0, 0
	for n := range 300 {
		w := &walk{t: t, seed: uint64(n), g: group.New(), epoch: 1, had: map[api.Cell]int{}}
		for range 400 {
			switch w.draw(16) {
			case 0, 1:
				w.write()
			case 2, 3, 4:
				w.g.Up[w.draw(api.Many)] = w.draw(3) > 0
			case 5:
				w.fence()
			case 6, 7:
				w.g, _ = w.g.Sync(w.epoch, w.draw(api.Many))
			case 8, 9:
				w.read()
			default:
				w.deliver()
			}
		}
		admits, reads, strays = admits+w.admits, reads+w.reads, strays+w.strays
	}
	if admits < 1000 || reads < 1000 || strays < 100 {
		t.Errorf("too little is tried: %d admitted, %d of these strays, %d read", admits, strays, reads)
	}
	t.Logf("%d admitted, %d of these strays, %d read", admits, strays, reads)
}
