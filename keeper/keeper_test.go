package keeper_test

import (
	"fmt"
	"math"
	"reflect"
	"slices"
	"strings"
	"testing"

	"kissinggate/api"
	"kissinggate/disk"
	"kissinggate/hold"
	"kissinggate/keeper"
)

// kept: an epoch and a state that are kept together.
type kept struct {
	epoch int
	s     api.State
}

func (x kept) String() string { return fmt.Sprint(x.epoch, x.s) }

// same: an empty list may be nil or not.
func same(a, b kept) bool {
	return a.epoch == b.epoch && slices.Equal(a.s.Regs, b.s.Regs) && a.s.Gen == b.s.Gen && a.s.Type == b.s.Type && a.s.Holder == b.s.Holder && a.s.Stays == b.s.Stays
}

func of(k *keeper.Keeper) kept { return kept{k.Epoch(), k.State()} }

// first: what a formatted disk has.
func first() kept { return kept{epoch: 1} }

// longest: no text of another epoch and state is longer.
func longest() kept {
	return kept{api.MaxEpoch, api.State{Gen: api.MaxGen, Regs: []api.Reg{{Who: 1, Key: 999}, {Who: 2, Key: 999}, {Who: 3, Key: 999}, {Who: 4, Key: 999}}, Type: api.UseKnown, Holder: 4, Stays: true}}
}

// several epochs and states, of all kinds.
func several() []kept {
	return []kept{
		first(),
		{2, api.State{Gen: 1, Regs: []api.Reg{{Who: 1, Key: 11}}}},
		{3, api.State{Gen: 1, Regs: []api.Reg{{Who: 1, Key: 11}}, Type: api.WriteAlone, Holder: 1}},
		longest(),
		{api.MaxEpoch - 1, api.State{Stays: true}},
		{1, api.State{Gen: 10, Regs: []api.Reg{{Who: 2, Key: 1}, {Who: 4, Key: 1}}, Type: api.UseAll}},
	}
}

func made(t *testing.T, n int) *disk.Disk {
	t.Helper()
	d, err := disk.New(n)
	if err != nil {
		t.Fatal(err)
	}
	return d
}

func formatted(t *testing.T, n int) *disk.Disk {
	t.Helper()
	d := made(t, n)
	if err := keeper.Format(d); err != nil {
		t.Fatalf("Format: %v", err)
	}
	return d
}

func opened(t *testing.T, d *disk.Disk) *keeper.Keeper {
	t.Helper()
	k, err := keeper.Open(d)
	if err != nil || k == nil {
		t.Fatalf("Open = %v, %v", k, err)
	}
	return k
}

// keeping: a disk on which that is kept last.
func keeping(t *testing.T, x kept) *disk.Disk {
	t.Helper()
	d := formatted(t, 6)
	mustKeep(t, opened(t, d), x)
	return d
}

func mustKeep(t *testing.T, k *keeper.Keeper, x kept) {
	t.Helper()
	if err := k.Keep(x.epoch, x.s); err != nil {
		t.Fatalf("Keep(%v): %v", x, err)
	}
	if !same(of(k), x) {
		t.Fatalf("Keep(%v): it has %v", x, of(k))
	}
}

// fallen: a disk that is down.
func fallen(t *testing.T, n int) *disk.Disk {
	t.Helper()
	d := made(t, n)
	d.Arm(0)
	d.Flush()
	return d
}

// isNone: no keeper can be opened, with that error.
func isNone(t *testing.T, what string, d *disk.Disk, want error) {
	t.Helper()
	if k, err := keeper.Open(d); err != want || k != nil {
		t.Errorf("%s: Open = %v, %v, want %v", what, k, err, want)
	}
}

// H1: disks that are large enough.
func TestFormat(t *testing.T) {
	for n := 1; n <= api.Sectors; n++ {
		d := made(t, n)
		isNone(t, "blank", d, api.ErrText)
		if n < 6 {
			if err := keeper.Format(d); err != api.ErrFull {
				t.Errorf("Format of %d sectors: %v", n, err)
			}
			isNone(t, "too small", d, api.ErrText)
			continue
		}
		if err := keeper.Format(d); err != nil {
			t.Errorf("Format of %d sectors: %v", n, err)
		}
		if got := of(opened(t, d)); !same(got, first()) {
			t.Errorf("Format of %d sectors: %v", n, got)
		}
	}
}

// H1: a small disk is told ahead of one that is down.
func TestDown(t *testing.T) {
	if err := keeper.Format(fallen(t, 5)); err != api.ErrFull {
		t.Errorf("Format of a small one: %v", err)
	}
	if err := keeper.Format(fallen(t, 6)); err != api.ErrDown {
		t.Errorf("Format: %v", err)
	}
	isNone(t, "blank and down", fallen(t, 6), api.ErrDown)
	d := formatted(t, 6)
	k := opened(t, d)
	d.Arm(0)
	d.Flush()
	isNone(t, "formatted and down", d, api.ErrDown)
	if err := k.Keep(2, api.State{}); err != api.ErrDown {
		t.Errorf("Keep: %v", err)
	}
	if err := keeper.Format(d); err != api.ErrDown {
		t.Errorf("Format: %v", err)
	}
	d.Restart(math.MaxUint64)
	if got := of(opened(t, d)); !same(got, first()) {
		t.Errorf("behind all that: %v", got)
	}
}

// bytesOnADisk that may have stood there ahead of Format: by sector.
func bytesOnADisk(t *testing.T) map[string]func(at int) string {
	t.Helper()
	elder := keeping(t, longest())
	read := func(at int) string {
		s, err := elder.Read(at)
		if err != nil {
			t.Fatal(err)
		}
		return s
	}
	return map[string]func(at int) string{
		"noughts":              func(int) string { return "" },
		"ones":                 func(int) string { return strings.Repeat("\xff", api.Sector) },
		"digits":               func(int) string { return strings.Repeat("9", api.Sector) },
		"blanks":               func(int) string { return strings.Repeat(" ", api.Sector) },
		"letters":              func(at int) string { return strings.Repeat(string(rune('a'+at)), 1+at*9) },
		"an elder one":         read,
		"an elder one, turned": func(at int) string { return read(5 - at) },
		"an elder one, thrice": func(at int) string { return read(at % 2) },
		"an elder one, cut":    func(at int) string { return read(at)[:20] },
	}
}

// H1: whatever was on it, flushed or not, and for good.
func TestFormatWhateverWasOnIt(t *testing.T) {
	for name, at := range bytesOnADisk(t) {
		for _, keep := range []uint64{0, 0x5555555555555555, math.MaxUint64} {
			for _, flush := range []bool{false, true} {
				d := made(t, 6)
				for i := range 6 {
					if err := d.Write(i, at(i)); err != nil {
						t.Fatal(err)
					}
				}
				if flush {
					d.Flush()
				}
				if err := keeper.Format(d); err != nil {
					t.Fatalf("%s: Format: %v", name, err)
				}
				d.Restart(keep)
				if got := of(opened(t, d)); !same(got, first()) {
					t.Errorf("%s: behind Format %v", name, got)
				}
			}
		}
	}
}

// H1: in the place of what was kept, many times too.
func TestFormatAnew(t *testing.T) {
	for _, x := range several() {
		d := keeping(t, x)
		for range 5 {
			if err := keeper.Format(d); err != nil {
				t.Fatal(err)
			}
			d.Restart(0)
			k := opened(t, d)
			if !same(of(k), first()) {
				t.Errorf("behind %v, and Format: %v", x, of(k))
			}
			mustKeep(t, k, x)
		}
	}
}

// H1: what is no keeper's isn't taken for one.
func TestOpenOfOtherBytes(t *testing.T) {
	for name, at := range bytesOnADisk(t) {
		if strings.HasPrefix(name, "an elder one") {
			continue // some of its sectors may well be what is kept
		}
		d := made(t, 6)
		for i := range 6 {
			if err := d.Write(i, at(i)); err != nil {
				t.Fatal(err)
			}
		}
		isNone(t, name, d, api.ErrText)
	}
}

// H1: texts that look like what is kept, but that nothing is kept by.
func TestOpenOfOddTexts(t *testing.T) {
	for _, text := range []string{
		"keeper", "keeper ", "keeper 1", "keeper 1 ", "keeper 1 0 0 0", "1 0 0 0 goes", "0 0 0 goes", "Keeper 1 0 0 0 goes", "keeper keeper 1 0 0 0 goes",
		"keeper 0 0 0 0 goes", "keeper -1 0 0 0 goes", "keeper 1000001 0 0 0 goes", "keeper 99999999999999999999 0 0 0 goes", "keeper 01 0 0 0 goes", "keeper +1 0 0 0 goes", "keeper x 0 0 0 goes",
		"keeper 1 0 0 1 goes", "keeper 1 0 1 1 goes", "keeper 1 -1 0 0 goes", "keeper 1 0 0 0 goes 5:1", "keeper 1 0 0 0 goes ", "keeper  1 0 0 0 goes", "keeper 1  0 0 0 goes", "keeper 1 0 0 0 goes\x00x", "\x00keeper 1 0 0 0 goes",
	} {
		d := made(t, 6)
		for at := range 6 {
			if err := d.Write(at, text); err != nil {
				t.Fatal(err)
			}
		}
		isNone(t, text, d, api.ErrText)
	}
}

// H1, H2: what is kept last is found, by the keeper that has it and by one that is opened anew, for good.
func TestKeep(t *testing.T) {
	d := formatted(t, 6)
	k := opened(t, d)
	for i := range 40 {
		x := several()[i%len(several())]
		mustKeep(t, k, x)
		if got := of(opened(t, d)); !same(got, x) {
			t.Fatalf("%v is kept, and opened: %v", x, got)
		}
		if i%3 == 0 {
			d.Restart(uint64(i) * 0x0123456789abcdef)
			k = opened(t, d)
		}
		if !same(of(k), x) {
			t.Fatalf("%v is kept: %v", x, of(k))
		}
	}
}

// allStates with some few keys, of each Type and Holder, that may be.
func allStates() []api.State {
	var l []api.State
	for who := range 1 << api.MaxWho {
		for i := range (api.UseAll + 1) * (api.MaxWho + 1) {
			s := api.State{Gen: []int{0, 9, api.MaxGen}[i%3], Type: i % 9, Holder: i / 9, Stays: (who+i)%2 == 0}
			for w := range api.MaxWho {
				if who>>w&1 == 1 {
					s.Regs = append(s.Regs, api.Reg{Who: w + 1, Key: []int{1, 10, api.MaxKey}[(w+i)%3]})
				}
			}
			if hold.Check(s) == nil {
				l = append(l, s)
			}
		}
	}
	return l
}

// H2: each state that may be, and epochs up to the bounds.
func TestKeepAllStates(t *testing.T) {
	d := formatted(t, api.Sectors)
	k := opened(t, d)
	for i, s := range allStates() {
		x := kept{[]int{1, 2, 10, 99999, api.MaxEpoch}[i%5], s}
		mustKeep(t, k, x)
		d.Restart(0)
		if k = opened(t, d); !same(of(k), x) {
			t.Fatalf("%v is kept: %v", x, of(k))
		}
	}
}

// H2, Z1: what can't be kept, and in which order that is told; nothing is changed.
func TestKeepWhatMayNotBe(t *testing.T) {
	bad := api.State{Gen: -1}
	shape := api.State{Holder: 1}
	for _, x := range []struct {
		kept
		want error
	}{
		{kept{0, api.State{}}, api.ErrBound},
		{kept{-1, api.State{}}, api.ErrBound},
		{kept{api.MaxEpoch + 1, api.State{}}, api.ErrBound},
		{kept{math.MinInt, api.State{}}, api.ErrBound},
		{kept{math.MaxInt, api.State{}}, api.ErrBound},
		{kept{0, shape}, api.ErrBound},
		{kept{1, bad}, api.ErrBound},
		{kept{1, api.State{Gen: api.MaxGen + 1}}, api.ErrBound},
		{kept{1, shape}, api.ErrShape},
		{kept{api.MaxEpoch, api.State{Type: 2}}, api.ErrShape},
		{kept{1, api.State{Type: api.WriteAll}}, api.ErrShape},
		{kept{1, api.State{Type: api.UseAlone, Holder: 2, Regs: []api.Reg{{Who: 1, Key: 1}}}}, api.ErrShape},
		{kept{1, api.State{Regs: []api.Reg{{Who: 1, Key: 1000}}}}, api.ErrBound},
		{kept{1, api.State{Regs: []api.Reg{{Who: 2, Key: 1}, {Who: 1, Key: 1}}}}, api.ErrShape},
		{kept{1, api.State{Regs: make([]api.Reg, 1000)}}, api.ErrBound},
	} {
		for _, was := range several() {
			d := keeping(t, was)
			k := opened(t, d)
			d.Arm(0)
			if err := k.Keep(x.epoch, x.s); err != x.want {
				t.Errorf("Keep(%v): %v, want %v", x.kept, err, x.want)
			}
			if d.Down() || !same(of(k), was) || !same(of(opened(t, d)), was) {
				t.Errorf("Keep(%v) changed something: %v", x.kept, of(k))
			}
		}
	}
	k := opened(t, formatted(t, 6))
	if err := k.Keep(1, bad); err != hold.Check(bad) {
		t.Errorf("%v isn't Check's error", err)
	}
}

// H2: errors of what is handed in go ahead of the disk's.
func TestKeepWhatMayNotBeOnADiskThatIsDown(t *testing.T) {
	d := formatted(t, 6)
	k := opened(t, d)
	d.Arm(0)
	d.Flush()
	if err := k.Keep(0, api.State{}); err != api.ErrBound {
		t.Errorf("an epoch that there isn't: %v", err)
	}
	if err := k.Keep(1, api.State{Holder: 1}); err != api.ErrShape {
		t.Errorf("a state that may not be: %v", err)
	}
	if err := k.Keep(1, api.State{}); err != api.ErrDown {
		t.Errorf("what may be: %v", err)
	}
}

// choices of what is kept behind a fall: all, of the first few writes, and some of more.
func choices() []uint64 {
	l := []uint64{math.MaxUint64, math.MaxUint64 - 1, 0x5555555555555555, 0xaaaaaaaaaaaaaaaa, 1 << 63}
	for keep := range uint64(1 << 8) {
		l = append(l, keep)
	}
	return l
}

// falls: it falls at each step of what is done on a fresh disk, and with each choice of what is kept; until it is done without a fall.
func falls(t *testing.T, fresh func() *disk.Disk, do func(d *disk.Disk) error, look func(d *disk.Disk, what string, done bool)) {
	t.Helper()
	done := false
	for step := 0; !done; step++ {
		for _, keep := range choices() {
			d := fresh()
			d.Arm(step)
			err := do(d)
			if err != nil && err != api.ErrDown || d.Down() != (err != nil) {
				t.Fatalf("a fall at step %d: %v, down: %v", step, err, d.Down())
			}
			done = err == nil
			d.Restart(keep)
			look(d, fmt.Sprintf("a fall at step %d, %x is kept", step, keep), done)
		}
	}
}

// either of two is found.
func either(t *testing.T, what string, d *disk.Disk, a, b kept) {
	t.Helper()
	k, err := keeper.Open(d)
	if err != nil {
		t.Fatalf("%s: Open: %v", what, err)
	}
	if got := of(k); !same(got, a) && !same(got, b) {
		t.Fatalf("%s: %v is neither %v nor %v", what, got, a, b)
	}
}

// H3: a fall at every step of keeping, whatever is kept; and then it is kept all the same.
func TestFallsOfKeep(t *testing.T) {
	for _, was := range several() {
		for _, next := range several() {
			// Behind one more: wherever it stands on the disk then.
			for _, more := range []bool{false, true} {
				fresh := func() *disk.Disk {
					d := keeping(t, was)
					if more {
						mustKeep(t, opened(t, d), was)
					}
					return d
				}
				keep := func(d *disk.Disk) error { return opened(t, d).Keep(next.epoch, next.s) }
				falls(t, fresh, keep, func(d *disk.Disk, what string, done bool) {
					t.Helper()
					if done {
						either(t, what, d, next, next)
						return
					}
					either(t, what, d, was, next)
					mustKeep(t, opened(t, d), longest())
					d.Restart(0)
					either(t, what+", and kept behind it", d, longest(), longest())
				})
			}
		}
	}
}

// H3: a fall at every step of formatting, over what was kept.
func TestFallsOfFormat(t *testing.T) {
	for _, was := range several() {
		falls(t, func() *disk.Disk { return keeping(t, was) }, keeper.Format, func(d *disk.Disk, what string, done bool) {
			t.Helper()
			if done {
				either(t, what, d, first(), first())
			} else {
				either(t, what, d, was, first())
			}
			mustKeep(t, opened(t, d), longest())
			either(t, what+", and kept behind it", d, longest(), longest())
		})
	}
}

// H3: a fall at every step of formatting where nothing was kept: there is none, or it is formatted; and it can be.
func TestFallsOfTheFirstFormat(t *testing.T) {
	for name, at := range bytesOnADisk(t) {
		if strings.HasPrefix(name, "an elder one") {
			continue
		}
		fresh := func() *disk.Disk {
			d := made(t, 6)
			for i := range 6 {
				if err := d.Write(i, at(i)); err != nil {
					t.Fatal(err)
				}
			}
			d.Flush()
			return d
		}
		falls(t, fresh, keeper.Format, func(d *disk.Disk, what string, done bool) {
			t.Helper()
			if k, err := keeper.Open(d); done || err == nil {
				either(t, name+": "+what, d, first(), first())
			} else if err != api.ErrText || k != nil {
				t.Fatalf("%s: %s: Open = %v, %v", name, what, k, err)
			}
			if err := keeper.Format(d); err != nil {
				t.Fatalf("%s: %s: Format: %v", name, what, err)
			}
			either(t, name+": formatted behind "+what, d, first(), first())
		})
	}
}

// drawn: numbers that look drawn, the same each time.
type drawn uint64

func (d *drawn) n(most int) int {
	*d = *d*6364136223846793005 + 1442695040888963407
	return int(uint64(*d>>33) % uint64(most))
}

// H3: fall upon fall, over many steps, and formatted now and then.
func TestFallUponFall(t *testing.T) {
	r := drawn(5)
	states := allStates()
	for range 40 {
		d := formatted(t, 6)
		k := opened(t, d)
		was := first()
		for range 300 {
			if r.n(3) == 0 {
				d.Arm(r.n(7))
			}
			next := kept{1 + r.n(api.MaxEpoch), states[r.n(len(states))]}
			do := func() error { return k.Keep(next.epoch, next.s) }
			if r.n(20) == 0 {
				next = first()
				do = func() error { return keeper.Format(d) }
			}
			if err := do(); err != nil {
				d.Restart(uint64(r.n(1 << 31)))
				either(t, "behind a fall", d, was, next)
			} else {
				either(t, "kept", d, next, next)
			}
			k = opened(t, d)
			was = of(k)
		}
	}
}

// Z2: what is handed in is neither kept nor written into; what comes out is the caller's.
func TestListsAreNotShared(t *testing.T) {
	memory := []api.Reg{{Who: 1, Key: 11}, {Who: 2, Key: 22}, {Who: 3, Key: 33}}
	was := slices.Clone(memory)
	d := formatted(t, 6)
	k := opened(t, d)
	want := kept{7, api.State{Gen: 3, Regs: slices.Clone(memory[:2])}}
	if err := k.Keep(7, api.State{Gen: 3, Regs: memory[:2]}); err != nil || !slices.Equal(memory, was) {
		t.Fatalf("Keep: %v; what was handed in: %v", err, memory)
	}
	clear(memory)
	if !same(of(k), want) {
		t.Errorf("what was handed in is kept: %v", of(k))
	}
	for _, k := range []*keeper.Keeper{k, opened(t, d)} {
		s, other := k.State(), k.State()
		clear(s.Regs[:cap(s.Regs)])
		if !same(of(k), want) || !same(kept{7, other}, want) {
			t.Errorf("lists that came out are shared: %v, %v", of(k), other)
		}
	}
}

// H1: a state of zeros, each field of it.
func TestZeros(t *testing.T) {
	k := opened(t, formatted(t, 6))
	s := k.State()
	if len(s.Regs) != 0 {
		t.Errorf("somebody is known: %v", s)
	}
	s.Regs = nil
	if !reflect.DeepEqual(s, api.State{}) {
		t.Errorf("it is no state of zeros: %v", s)
	}
}

// Z2: keepers of different disks have nothing in common.
func TestKeepersAreApart(t *testing.T) {
	a, b := formatted(t, 6), formatted(t, 6)
	mustKeep(t, opened(t, a), longest())
	k := opened(t, b)
	if !same(of(k), first()) || !same(of(opened(t, a)), longest()) {
		t.Errorf("another one has %v", of(k))
	}
}
