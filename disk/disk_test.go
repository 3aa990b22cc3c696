package disk_test

import (
	"fmt"
	"math"
	"strings"
	"testing"

	"kissinggate/api"
	"kissinggate/disk"
)

// full: what a sector has behind a Write of data.
func full(data string) string {
	return data + strings.Repeat("\x00", api.Sector-len(data))
}

func made(t *testing.T, n int) *disk.Disk {
	t.Helper()
	d, err := disk.New(n)
	if err != nil || d == nil {
		t.Fatalf("New(%d) = %v, %v", n, d, err)
	}
	return d
}

// written: each of these is, one behind the other, at 0, 1, .. of a disk that is gone round.
func written(t *testing.T, d *disk.Disk, data ...string) {
	t.Helper()
	for i, s := range data {
		if err := d.Write(i%d.Sectors(), s); err != nil {
			t.Fatalf("Write(%d, %q): %v", i%d.Sectors(), s, err)
		}
	}
}

func flushed(t *testing.T, d *disk.Disk) {
	t.Helper()
	if err := d.Flush(); err != nil {
		t.Fatalf("Flush: %v", err)
	}
}

// has: the sectors of a disk are these, noughts behind them.
func has(t *testing.T, what string, d *disk.Disk, want ...string) {
	t.Helper()
	for at, s := range want {
		if got, err := d.Read(at); err != nil || got != full(s) {
			t.Errorf("%s: Read(%d) = %q, %v, want %q", what, at, got, err, s)
		}
	}
}

// G1: how many sectors there may be.
func TestNew(t *testing.T) {
	for _, n := range []int{1, 2, 6, api.Sectors - 1, api.Sectors} {
		d := made(t, n)
		if d.Sectors() != n {
			t.Errorf("New(%d): %d sectors", n, d.Sectors())
		}
		has(t, "new", d, make([]string, n)...)
		if d.Down() {
			t.Errorf("New(%d) is down", n)
		}
	}
	for _, n := range []int{math.MinInt, -1, 0, api.Sectors + 1, math.MaxInt} {
		if d, err := disk.New(n); err != api.ErrBound || d != nil {
			t.Errorf("New(%d) = %v, %v", n, d, err)
		}
	}
}

// G1: a new disk isn't armed.
func TestNewIsNotArmed(t *testing.T) {
	d := made(t, 1)
	for range 1000 {
		written(t, d, "a")
		flushed(t, d)
	}
}

// G1: what is written is read, with noughts behind it, and stands in that sector alone.
func TestWriteAndRead(t *testing.T) {
	for _, n := range []int{1, 3, api.Sectors} {
		for at := range n {
			d := made(t, n)
			want := make([]string, n)
			for _, size := range []int{api.Sector, 1, 63, 0, 64, 2} {
				want[at] = strings.Repeat("\xfe", size)
				if err := d.Write(at, want[at]); err != nil {
					t.Fatalf("Write(%d) of %d bytes: %v", at, size, err)
				}
				has(t, fmt.Sprint(size, " bytes at ", at), d, want...)
			}
		}
	}
}

// G1: sectors that there are not, and too much for one; nothing is written then.
func TestBounds(t *testing.T) {
	for _, n := range []int{1, 3, api.Sectors} {
		d := made(t, n)
		for _, at := range []int{math.MinInt, -1, n, n + 1, 64, math.MaxInt} {
			if got, err := d.Read(at); err != api.ErrBound || got != "" {
				t.Errorf("Read(%d) of %d = %q, %v", at, n, got, err)
			}
			if err := d.Write(at, "a"); err != api.ErrBound {
				t.Errorf("Write(%d) of %d: %v", at, n, err)
			}
		}
		for _, size := range []int{api.Sector + 1, 2 * api.Sector, 1 << 20} {
			if err := d.Write(0, strings.Repeat("b", size)); err != api.ErrBound {
				t.Errorf("Write of %d bytes: %v", size, err)
			}
		}
		has(t, "out of bounds", d, make([]string, n)...)
	}
}

// G1, G2: which error goes ahead: a disk that is down reads nothing, but a Write that can't be is out of bounds all the same.
func TestErrorsOfADiskThatIsDown(t *testing.T) {
	d := made(t, 3)
	written(t, d, "a", "b", "c")
	d.Arm(0)
	if d.Down() {
		t.Error("it is down ahead of the step")
	}
	has(t, "armed", d, "a", "b", "c")
	if err := d.Write(0, "d"); err != api.ErrDown || !d.Down() {
		t.Fatalf("Write: %v, down: %v", err, d.Down())
	}
	for _, at := range []int{math.MinInt, -1, 0, 2, 3, math.MaxInt} {
		if got, err := d.Read(at); err != api.ErrDown || got != "" {
			t.Errorf("Read(%d) = %q, %v", at, got, err)
		}
	}
	for _, at := range []int{math.MinInt, -1, 3, math.MaxInt} {
		if err := d.Write(at, "d"); err != api.ErrBound {
			t.Errorf("Write(%d): %v", at, err)
		}
	}
	if err := d.Write(0, full("")+"d"); err != api.ErrBound {
		t.Errorf("Write of too much: %v", err)
	}
	if err := d.Write(0, "d"); err != api.ErrDown {
		t.Errorf("Write: %v", err)
	}
	if err := d.Flush(); err != api.ErrDown {
		t.Errorf("Flush: %v", err)
	}
	if d.Sectors() != 3 {
		t.Errorf("%d sectors", d.Sectors())
	}
}

// G2: so many steps, of either kind, are done, and the next one isn't; what is no step takes none.
func TestArm(t *testing.T) {
	for n := range 20 {
		d := made(t, 2)
		d.Arm(n)
		for i := range n {
			if i%3 == 2 {
				flushed(t, d)
			} else {
				written(t, d, "a")
			}
			d.Read(0)
			d.Read(9)
			d.Write(9, "b")
			d.Write(-1, "b")
			d.Write(0, full("")+"b")
			d.Sectors()
			if d.Down() {
				t.Fatalf("armed with %d, down behind %d", n, i+1)
			}
		}
		step := d.Flush
		if n%2 == 0 {
			step = func() error { return d.Write(1, "c") }
		}
		for range 3 {
			if err := step(); err != api.ErrDown || !d.Down() {
				t.Errorf("armed with %d, the step behind: %v, down: %v", n, err, d.Down())
			}
		}
	}
}

// G2: Arm counts anew; below 0 it isn't armed; it makes nothing up that is down.
func TestArmAnew(t *testing.T) {
	d := made(t, 1)
	d.Arm(1)
	written(t, d, "a")
	d.Arm(2)
	written(t, d, "b", "c")
	for _, n := range []int{-1, math.MinInt} {
		d.Arm(0)
		d.Arm(n)
		for range 100 {
			written(t, d, "d")
		}
	}
	d.Arm(math.MaxInt)
	written(t, d, "e")
	d.Arm(0)
	if err := d.Flush(); err != api.ErrDown {
		t.Errorf("Flush: %v", err)
	}
	for _, n := range []int{7, 0, -1} {
		d.Arm(n)
		if err := d.Flush(); err != api.ErrDown || !d.Down() {
			t.Errorf("Arm(%d) of one that is down: %v, down: %v", n, err, d.Down())
		}
	}
}

// G2, G3: what was flushed stays, whatever is kept; a Flush that fell keeps nothing, and a Write that fell is none.
func TestFlush(t *testing.T) {
	for _, keep := range []uint64{0, 1, math.MaxUint64} {
		d := made(t, 3)
		written(t, d, "a", "b", "c", "d")
		flushed(t, d)
		d.Restart(keep)
		has(t, "flushed", d, "d", "b", "c")
	}
	d := made(t, 2)
	written(t, d, "a", "b")
	d.Arm(0)
	if err := d.Flush(); err != api.ErrDown {
		t.Fatalf("Flush: %v", err)
	}
	d.Restart(0)
	has(t, "a Flush that fell", d, "", "")
	d.Arm(1)
	written(t, d, "a")
	if err := d.Write(1, "b"); err != api.ErrDown {
		t.Fatalf("Write: %v", err)
	}
	d.Restart(math.MaxUint64)
	has(t, "a Write that fell", d, "a", "")
}

// G3: which writes are kept, of all choices among five, over what was flushed, fallen or not.
func TestRestart(t *testing.T) {
	for keep := range uint64(32) {
		for _, falls := range []bool{false, true} {
			d := made(t, 3)
			written(t, d, "x", "y", "z")
			flushed(t, d)
			written(t, d, "a", "b", "c", "d", "e")
			has(t, "ahead", d, "d", "e", "c")
			if falls {
				d.Arm(0)
				d.Write(2, "f")
			}
			want := []string{"x", "y", "z"}
			for i, s := range []string{"a", "b", "c", "d", "e"} {
				if keep>>i&1 == 1 {
					want[i%3] = s
				}
			}
			d.Restart(keep)
			has(t, fmt.Sprint("keep ", keep), d, want...)
			d.Restart(0)
			has(t, fmt.Sprint("kept for good ", keep), d, want...)
		}
	}
}

// G3: behind it, it is up, and not armed.
func TestRestartIsUp(t *testing.T) {
	d := made(t, 1)
	d.Arm(0)
	d.Flush()
	d.Arm(1)
	d.Restart(0)
	if d.Down() {
		t.Error("it is down")
	}
	written(t, d, "a", "b", "c")
	d.Arm(1)
	d.Restart(0)
	written(t, d, "a", "b", "c")
	flushed(t, d)
	has(t, "up", d, "c")
}

// G3: numbers begin at 0 again behind a Flush and behind a Restart; a Write that wasn't done has none.
func TestNumbersOfWrites(t *testing.T) {
	d := made(t, 4)
	written(t, d, "a", "b", "c")
	flushed(t, d)
	written(t, d, "d", "e")
	d.Restart(1)
	has(t, "behind a Flush", d, "d", "b", "c", "")
	written(t, d, "f", "g")
	d.Restart(2)
	has(t, "behind a Restart", d, "d", "g", "c", "")
	d.Write(4, "h")
	d.Write(0, full("")+"h")
	written(t, d, "i", "j")
	d.Restart(1)
	has(t, "behind what wasn't done", d, "i", "g", "c", "")
}

// G3: a write's number counts modulo 64, bit 0 is the lowest one, and later ones cover elder ones.
func TestNumbersModulo64(t *testing.T) {
	for bit := range 64 {
		d := made(t, 1)
		for i := range 64 {
			written(t, d, fmt.Sprint(i))
		}
		d.Restart(1 << bit)
		has(t, fmt.Sprint("bit ", bit), d, fmt.Sprint(bit))
	}
	for bit := range 64 {
		d := made(t, api.Sectors)
		want := make([]string, api.Sectors)
		for i := range 1000 {
			s := fmt.Sprint("number ", i)
			if err := d.Write(i*7%api.Sectors, s); err != nil {
				t.Fatal(err)
			}
			if i%64 == bit {
				want[i*7%api.Sectors] = s
			}
		}
		d.Restart(1 << bit)
		has(t, fmt.Sprint("bit ", bit), d, want...)
	}
}

// model of a disk: each write that isn't kept, since the beginning of numbers.
type model struct {
	kept, now []string
	at        []int
	data      []string
	left      int
	down      bool
}

func (m *model) step() error {
	switch {
	case m.down:
		return api.ErrDown
	case m.left == 0:
		m.down = true
		return api.ErrDown
	}
	m.left--
	return nil
}

func (m *model) write(at int, data string) error {
	if at < 0 || at >= len(m.now) || len(data) > api.Sector {
		return api.ErrBound
	}
	if err := m.step(); err != nil {
		return err
	}
	m.now[at] = data
	m.at, m.data = append(m.at, at), append(m.data, data)
	return nil
}

func (m *model) flush() error {
	if err := m.step(); err != nil {
		return err
	}
	m.restart(math.MaxUint64)
	return nil
}

func (m *model) restart(keep uint64) {
	for i, at := range m.at {
		if keep&(1<<(i%64)) != 0 {
			m.kept[at] = m.data[i]
		}
	}
	copy(m.now, m.kept)
	m.at, m.data = nil, nil
}

// drawn: numbers that look drawn, the same each time.
type drawn uint64

func (d *drawn) n(most int) int {
	*d = *d*6364136223846793005 + 1442695040888963407
	return int(uint64(*d>>33) % uint64(most))
}

// compare a disk with what it should be.
func compare(t *testing.T, d *disk.Disk, m *model) {
	t.Helper()
	if d.Down() != m.down {
		t.Fatalf("down: %v", d.Down())
	}
	for at, s := range m.now {
		got, err := d.Read(at)
		if m.down && (err != api.ErrDown || got != "") {
			t.Fatalf("Read(%d) of one that is down = %q, %v", at, got, err)
		}
		if !m.down && (err != nil || got != full(s)) {
			t.Fatalf("Read(%d) = %q, %v, want %q", at, got, err, s)
		}
	}
}

// G1 to G3: against a model that has all writes, over many steps, few and many of them between a Flush and the next.
func TestManySteps(t *testing.T) {
	r := drawn(7)
	for round := range 60 {
		n := 1 + r.n(5)
		d := made(t, n)
		m := &model{kept: make([]string, n), now: make([]string, n), left: -1}
		rare := []int{5, 50, 500}[round%3]
		for i := range 2000 {
			at, data := r.n(n+2)-1, strings.Repeat(fmt.Sprint(i), 1+r.n(17))
			if got, want := d.Write(at, data), m.write(at, data); got != want {
				t.Fatalf("Write(%d) of %d bytes: %v, want %v", at, len(data), got, want)
			}
			switch r.n(rare) {
			case 0:
				if got, want := d.Flush(), m.flush(); got != want {
					t.Fatalf("Flush: %v, want %v", got, want)
				}
			case 1:
				m.left = r.n(200) - 20
				d.Arm(m.left)
			case 2:
				keep := uint64(r.n(1<<31))<<33 ^ uint64(r.n(1<<31))<<11 ^ uint64(r.n(1<<31))
				d.Restart(keep)
				m.restart(keep)
				m.down, m.left = false, -1
			}
			compare(t, d, m)
		}
	}
}

// Z2: disks have nothing in common.
func TestDisksAreApart(t *testing.T) {
	a, b := made(t, 2), made(t, 2)
	written(t, a, "a", "b")
	flushed(t, a)
	a.Arm(0)
	a.Flush()
	has(t, "another one", b, "", "")
	written(t, b, "c", "d")
	b.Restart(2)
	has(t, "another one", b, "", "d")
	a.Restart(0)
	has(t, "the first one", a, "a", "b")
}
