package order_test

import (
	"math"
	"reflect"
	"slices"
	"strconv"
	"strings"
	"testing"

	"kissinggate/api"
	"kissinggate/code"
	"kissinggate/hold"
	"kissinggate/order"
	"kissinggate/report"
	"kissinggate/rights"
)

func stateOf(t *testing.T, text string) api.State {
	t.Helper()
	s, err := report.Parse(text)
	if err != nil {
		t.Fatalf("%q is no state", text)
	}
	return s
}

func commandOf(t *testing.T, text string) api.Command {
	t.Helper()
	c, err := code.Parse(text)
	if err != nil {
		t.Fatalf("%q is no command", text)
	}
	return c
}

// tellsText: who and what, as it came.
func tellsText(l []api.Tell) string {
	var r []string
	for _, t := range l {
		r = append(r, strconv.Itoa(t.Who)+[]string{"?", " lost", " freed", " cleared", " power"}[t.What])
	}
	return strings.Join(r, ", ")
}

// one: what is asked in a state, and the state behind it, or what is wrong, and what is told.
type one struct{ name, state, command, then, told string }

func run(t *testing.T, l []one) {
	t.Helper()
	for _, x := range l {
		got, told, err := order.Do(stateOf(t, x.state), commandOf(t, x.command))
		if want, wrong := (map[string]api.Errno{"shape": api.ErrShape, "conflict": api.ErrConflict, "field": api.ErrField})[x.then]; wrong {
			if err != want || len(told) > 0 || !reflect.DeepEqual(got, api.State{}) {
				t.Errorf("%s: %s; %s: %v %v %v, want just %v", x.name, x.state, x.command, got, told, err, want)
			}
			continue
		}
		if err != nil || report.Text(got) != x.then || tellsText(told) != x.told {
			t.Errorf("%s: %s; %s: %s; %s; %v, want %s; %s", x.name, x.state, x.command, report.Text(got), tellsText(told), err, x.then, x.told)
		}
	}
}

// D1.
func TestWhoAsksMustBeKnown(t *testing.T) {
	const s = "5 0 0 goes 1:11 2:22"
	run(t, []one{
		{"read", s, "1 read 0", "shape", ""},
		{"write", s, "1 write 0 a", "shape", ""},
		{"compare", s, "1 compare 0 a b", "shape", ""},
		{"register, known by another", s, "1 register 22 3 goes", "conflict", ""},
		{"register, known, as if by none", s, "1 register 0 3 goes", "conflict", ""},
		{"register, not known, as if by one", s, "3 register 11 3 goes", "conflict", ""},
		{"register, not known, by none", s, "3 register 0 3 goes", "6 0 0 goes 1:11 2:22 3:3", ""},
		{"register, known", s, "1 register 11 3 goes", "6 0 0 goes 1:3 2:22", ""},
		{"register by none, not any more", s, "3 register 0 0 goes", "6 0 0 goes 1:11 2:22", ""},
		{"ignore, known by another", s, "1 ignore 22 3 goes", "6 0 0 goes 1:3 2:22", ""},
		{"ignore, known, as if by none", s, "1 ignore 0 3 goes", "6 0 0 goes 1:3 2:22", ""},
		{"ignore, not known", s, "3 ignore 11 3 goes", "6 0 0 goes 1:11 2:22 3:3", ""},
		{"reserve, another key", s, "1 reserve 22 1", "conflict", ""},
		{"reserve, 0", s, "1 reserve 0 1", "conflict", ""},
		{"reserve, not known, 0", s, "3 reserve 0 1", "conflict", ""},
		{"release, another key", s, "1 release 22 1", "conflict", ""},
		{"release, not known, 0", s, "3 release 0 1", "conflict", ""},
		{"clear, another key", s, "1 clear 22", "conflict", ""},
		{"clear, not known, 0", s, "3 clear 0", "conflict", ""},
		{"preempt, another key", s, "1 preempt 22 22 1", "conflict", ""},
		{"preempt, not known, 0", s, "3 preempt 0 22 1", "conflict", ""},
		{"the key goes ahead of the field", s, "3 preempt 0 0 1", "conflict", ""},
		{"the key goes ahead of the type", "5 1 1 goes 1:11", "1 release 12 3", "conflict", ""},
	})
}

// D1: how often it changed.
func TestGen(t *testing.T) {
	const s = "1000000000 0 0 stays 1:11 2:22"
	run(t, []one{
		{"register", s, "3 register 0 33 stays", "0 0 0 stays 1:11 2:22 3:33", ""},
		{"ignore", s, "2 ignore 0 0 stays", "0 0 0 stays 1:11", ""},
		{"the same key", s, "2 register 22 22 stays", "0 0 0 stays 1:11 2:22", ""},
		{"reserve", s, "1 reserve 11 1", "1000000000 1 1 stays 1:11 2:22", ""},
		{"release", "1000000000 1 1 stays 1:11", "1 release 11 1", "1000000000 0 0 stays 1:11", ""},
		{"clear", s, "1 clear 11", "0 0 0 stays", "2 cleared"},
		{"preempt", s, "1 preempt 11 22 1", "0 0 0 stays 1:11", "2 lost"},
		{"one below", "999999999 0 0 stays 1:11", "1 clear 11", "1000000000 0 0 stays", ""},
	})
}

// D2.
func TestRegister(t *testing.T) {
	run(t, []one{
		{"stays", "0 0 0 goes", "4 register 0 999 stays", "1 0 0 stays 4:999", ""},
		{"goes", "0 0 0 stays 4:9", "2 register 0 999 goes", "1 0 0 goes 2:999 4:9", ""},
		{"ignore stays", "0 0 0 goes", "4 ignore 5 999 stays", "1 0 0 stays 4:999", ""},
		{"who holds is known by another key", "0 6 2 goes 1:1 2:2", "2 register 2 3 goes", "1 6 2 goes 1:1 2:3", ""},
		{"who doesn't hold is known no more", "0 6 2 goes 1:1 2:2", "1 register 1 0 goes", "1 6 2 goes 2:2", ""},
		{"WriteAlone", "0 1 2 goes 1:1 2:2", "2 register 2 0 stays", "1 0 0 stays 1:1", ""},
		{"UseAlone", "0 3 2 goes 1:1 2:2", "2 register 2 0 goes", "1 0 0 goes 1:1", ""},
		{"WriteKnown", "0 5 2 goes 1:1 2:2 3:1 4:7", "2 register 2 0 goes", "1 0 0 goes 1:1 3:1 4:7", "1 freed, 3 freed, 4 freed"},
		{"UseKnown", "0 6 2 goes 1:1 2:2 3:1", "2 ignore 0 0 goes", "1 0 0 goes 1:1 3:1", "1 freed, 3 freed"},
		{"UseKnown, and nobody else", "0 6 2 goes 2:2", "2 register 2 0 goes", "1 0 0 goes", ""},
		{"WriteAll, and others", "0 7 0 goes 1:1 2:2", "2 register 2 0 goes", "1 7 0 goes 1:1", ""},
		{"UseAll, and others", "0 8 0 goes 1:1 2:2", "1 ignore 2 0 goes", "1 8 0 goes 2:2", ""},
		{"WriteAll, and nobody else", "0 7 0 goes 2:2", "2 register 2 0 goes", "1 0 0 goes", ""},
		{"UseAll, and nobody else", "0 8 0 goes 3:2", "3 register 2 0 goes", "1 0 0 goes", ""},
		{"UseAll, by none, not any more", "0 8 0 goes 3:2", "1 register 0 0 stays", "1 8 0 stays 3:2", ""},
	})
}

// D3.
func TestReserve(t *testing.T) {
	run(t, []one{
		{"WriteAlone", "3 0 0 goes 1:1 2:2", "2 reserve 2 1", "3 1 2 goes 1:1 2:2", ""},
		{"UseAlone", "3 0 0 stays 1:1 2:2", "2 reserve 2 3", "3 3 2 stays 1:1 2:2", ""},
		{"WriteKnown", "3 0 0 goes 1:1 2:2", "1 reserve 1 5", "3 5 1 goes 1:1 2:2", ""},
		{"UseKnown", "3 0 0 goes 1:1 2:2", "1 reserve 1 6", "3 6 1 goes 1:1 2:2", ""},
		{"WriteAll", "3 0 0 goes 1:1 2:2", "1 reserve 1 7", "3 7 0 goes 1:1 2:2", ""},
		{"UseAll", "3 0 0 goes 1:1 2:2", "1 reserve 1 8", "3 8 0 goes 1:1 2:2", ""},
		{"again", "3 3 2 goes 1:1 2:2", "2 reserve 2 3", "3 3 2 goes 1:1 2:2", ""},
		{"again, by another of all", "3 7 0 goes 1:1 2:2", "2 reserve 2 7", "3 7 0 goes 1:1 2:2", ""},
		{"another type", "3 3 2 goes 1:1 2:2", "2 reserve 2 1", "conflict", ""},
		{"another type of all", "3 7 0 goes 1:1 2:2", "2 reserve 2 8", "conflict", ""},
		{"somebody else holds it", "3 5 2 goes 1:1 2:2", "1 reserve 1 5", "conflict", ""},
		{"somebody else holds it, by the same key", "3 5 2 goes 1:1 2:1", "1 reserve 1 5", "conflict", ""},
	})
}

// D3.
func TestRelease(t *testing.T) {
	run(t, []one{
		{"nothing is held", "3 0 0 goes 1:1 2:2", "2 release 2 1", "3 0 0 goes 1:1 2:2", ""},
		{"somebody else holds it", "3 5 1 goes 1:1 2:2", "2 release 2 5", "3 5 1 goes 1:1 2:2", ""},
		{"somebody else holds it, and another type", "3 5 1 goes 1:1 2:2", "2 release 2 6", "3 5 1 goes 1:1 2:2", ""},
		{"another type", "3 5 1 goes 1:1 2:2", "1 release 1 6", "field", ""},
		{"another type of all", "3 8 0 goes 1:1 2:2", "1 release 1 7", "field", ""},
		{"WriteAlone", "3 1 1 goes 1:1 2:2", "1 release 1 1", "3 0 0 goes 1:1 2:2", ""},
		{"UseAlone", "3 3 1 stays 1:1 2:2", "1 release 1 3", "3 0 0 stays 1:1 2:2", ""},
		{"WriteKnown", "3 5 3 goes 1:1 3:3 4:1", "3 release 3 5", "3 0 0 goes 1:1 3:3 4:1", "1 freed, 4 freed"},
		{"UseKnown", "3 6 3 goes 1:1 3:3 4:1", "3 release 3 6", "3 0 0 goes 1:1 3:3 4:1", "1 freed, 4 freed"},
		{"WriteAll", "3 7 0 goes 1:1 3:3 4:1", "3 release 3 7", "3 0 0 goes 1:1 3:3 4:1", "1 freed, 4 freed"},
		{"UseAll", "3 8 0 goes 1:1 3:3 4:1", "1 release 1 8", "3 0 0 goes 1:1 3:3 4:1", "3 freed, 4 freed"},
		{"nobody else", "3 8 0 goes 1:1", "1 release 1 8", "3 0 0 goes 1:1", ""},
	})
}

// D3.
func TestClear(t *testing.T) {
	run(t, []one{
		{"nothing is held", "3 0 0 stays 1:1 2:2", "1 clear 1", "4 0 0 stays", "2 cleared"},
		{"held", "3 6 2 goes 1:1 2:2 4:2", "2 clear 2", "4 0 0 goes", "1 cleared, 4 cleared"},
		{"somebody else holds it", "3 3 2 goes 1:1 2:2 4:2", "1 clear 1", "4 0 0 goes", "2 cleared, 4 cleared"},
		{"all", "3 7 0 goes 1:1 2:2 3:3", "3 clear 3", "4 0 0 goes", "1 cleared, 2 cleared"},
		{"nobody else", "3 7 0 goes 3:3", "3 clear 3", "4 0 0 goes", ""},
	})
}

// D4.
func TestPreempt(t *testing.T) {
	run(t, []one{
		{"0, and nothing is held", "3 0 0 goes 1:1 2:2", "1 preempt 1 0 1", "field", ""},
		{"0, and one holds it", "3 5 1 goes 1:1 2:2", "1 preempt 1 0 1", "field", ""},
		{"0, and all hold it", "3 7 0 stays 1:1 2:2 4:1", "1 preempt 1 0 3", "4 3 1 stays 1:1", "2 lost, 4 lost"},
		{"0, and all hold it, of the same type", "3 8 0 goes 1:1 2:2 4:1", "2 preempt 2 0 8", "4 8 0 goes 2:2", "1 lost, 4 lost"},
		{"0, and all is one", "3 8 0 goes 1:1", "1 preempt 1 0 1", "4 1 1 goes 1:1", ""},
		{"nothing is held", "3 0 0 goes 1:1 2:2 3:3 4:2", "1 preempt 1 2 5", "4 0 0 goes 1:1 3:3", "2 lost, 4 lost"},
		{"nothing is held, and nobody has it", "3 0 0 goes 1:1 2:2", "1 preempt 1 3 5", "conflict", ""},
		{"nothing is held, and just who asks has it", "3 0 0 goes 1:1 2:2", "1 preempt 1 1 5", "4 0 0 goes 1:1 2:2", ""},
		{"nothing is held, and others have it too", "3 0 0 goes 1:1 2:1", "1 preempt 1 1 5", "4 0 0 goes 1:1", "2 lost"},
		{"all hold it, and some have it", "3 7 0 goes 1:1 2:2 3:3 4:2", "1 preempt 1 2 1", "4 7 0 goes 1:1 3:3", "2 lost, 4 lost"},
		{"all hold it, and nobody has it", "3 7 0 goes 1:1 2:2", "1 preempt 1 3 1", "conflict", ""},
		{"all hold it, and just who asks has it", "3 7 0 goes 1:1 2:2", "1 preempt 1 1 1", "4 7 0 goes 1:1 2:2", ""},
		{"who holds it doesn't have it", "3 6 3 goes 1:1 2:2 3:3 4:2", "1 preempt 1 2 1", "4 6 3 goes 1:1 3:3", "2 lost, 4 lost"},
		{"who holds it doesn't have it, and nobody does", "3 6 3 goes 1:1 3:3", "1 preempt 1 2 1", "conflict", ""},
		{"who holds it doesn't have it, and just who asks does", "3 6 3 goes 1:1 3:3", "1 preempt 1 1 1", "4 6 3 goes 1:1 3:3", ""},
		{"who holds it has it", "3 6 3 stays 1:1 2:2 3:3 4:3", "1 preempt 1 3 6", "4 6 1 stays 1:1 2:2", "3 lost, 4 lost"},
		{"who holds it has it, another type", "3 6 3 goes 1:1 2:2 3:3 4:4", "1 preempt 1 3 5", "4 5 1 goes 1:1 2:2 4:4", "3 lost, 2 freed, 4 freed"},
		{"who holds it alone has it, another type", "3 1 3 goes 1:1 2:2 3:3 4:4", "4 preempt 4 3 3", "4 3 4 goes 1:1 2:2 4:4", "3 lost, 1 freed, 2 freed"},
		{"who holds it has it, for all", "3 1 3 goes 1:1 2:2 3:3", "2 preempt 2 3 8", "4 8 0 goes 1:1 2:2", "3 lost, 1 freed"},
		{"who asks holds it", "3 1 1 goes 1:1 2:2", "1 preempt 1 1 7", "4 7 0 goes 1:1 2:2", "2 freed"},
		{"who asks holds it, and others have it", "3 5 1 goes 1:1 2:1 3:3", "1 preempt 1 1 5", "4 5 1 goes 1:1 3:3", "2 lost"},
		{"who asks has it, and who holds it too", "3 5 2 goes 1:1 2:1 3:3", "1 preempt 1 1 6", "4 6 1 goes 1:1 3:3", "2 lost, 3 freed"},
		{"who asks holds it, and others have another", "3 5 1 goes 1:1 2:2 3:3", "1 preempt 1 3 5", "4 5 1 goes 1:1 2:2", "3 lost"},
	})
}

// known: by which key each is, who less 1; a second way to write down who is known.
type known [api.MaxWho]int

func (k known) regs() []api.Reg {
	var l []api.Reg
	for i, key := range k {
		if key > 0 {
			l = append(l, api.Reg{Who: i + 1, Key: key})
		}
	}
	return l
}

// states that may be, of those who are known by 1, by 2, or not: all in which something may differ.
func states(do func(k known, s api.State)) {
	for i := range 3 * 3 * 3 * 3 {
		k := known{i % 3, i / 3 % 3, i / 9 % 3, i / 27}
		do(k, api.State{Gen: api.MaxGen, Regs: k.regs(), Stays: true})
		for _, n := range []int{api.WriteAlone, api.UseAlone, api.WriteKnown, api.UseKnown} {
			for i, key := range k {
				if key > 0 {
					do(k, api.State{Gen: 3, Regs: k.regs(), Type: n, Holder: i + 1})
				}
			}
		}
		if k != (known{}) {
			do(k, api.State{Regs: k.regs(), Type: api.WriteAll, Stays: true})
			do(k, api.State{Regs: k.regs(), Type: api.UseAll})
		}
	}
}

// commands that may be, of all who ask, and of keys up to 3.
func commands() []api.Command {
	var l []api.Command
	types := []int{api.WriteAlone, api.UseAlone, api.WriteKnown, api.UseKnown, api.WriteAll, api.UseAll}
	for who := 1; who <= api.MaxWho; who++ {
		for key := range 4 {
			l = append(l, api.Command{Op: api.Clear, Who: who, Key: key})
			for _, n := range types {
				l = append(l, api.Command{Op: api.Reserve, Who: who, Key: key, Type: n})
				l = append(l, api.Command{Op: api.Release, Who: who, Key: key, Type: n})
			}
			for fresh := range 4 {
				for _, b := range []bool{false, true} {
					l = append(l, api.Command{Op: api.Register, Who: who, Key: key, New: fresh, Stays: b})
					l = append(l, api.Command{Op: api.Ignore, Who: who, Key: key, New: fresh, Stays: b})
				}
				for _, n := range types {
					l = append(l, api.Command{Op: api.Preempt, Who: who, Key: key, New: fresh, Type: n})
				}
			}
		}
	}
	return l
}

// model: a state, and what each is told, in a form of its own: of what was told nobody is told more than one thing.
type model struct {
	known
	kind, holder int
	told         [api.MaxWho]int
}

func (m *model) tell(c api.Command, what int) {
	for i, key := range m.known {
		if key > 0 && i+1 != c.Who {
			m.told[i] = what
		}
	}
}

func (m *model) hold(c api.Command) {
	m.kind, m.holder = c.Type, c.Who
	if c.Type >= api.WriteAll {
		m.holder = 0
	}
}

// ask what D2 to D4 say, of who was let in by D1.
func (m *model) ask(c api.Command) api.Errno {
	was, me := *m, c.Who-1
	all := m.kind >= api.WriteAll
	mine := all && m.known[me] > 0 || m.kind > 0 && m.holder == c.Who
	holderKey := 0
	if m.holder > 0 {
		holderKey = m.known[m.holder-1]
	}
	switch c.Op {
	case api.Register, api.Ignore:
		m.known[me] = c.New
		if c.New == 0 && mine && (!all || m.known == known{}) {
			m.kind, m.holder = 0, 0
			if was.kind == api.WriteKnown || was.kind == api.UseKnown {
				m.tell(c, api.Freed)
			}
		}
	case api.Reserve:
		if m.kind == 0 {
			m.hold(c)
		} else if !(mine && m.kind == c.Type) {
			return api.ErrConflict
		}
	case api.Release:
		if mine && m.kind != c.Type {
			return api.ErrField
		} else if mine {
			m.kind, m.holder = 0, 0
			if c.Type > api.UseAlone {
				m.tell(c, api.Freed)
			}
		}
	case api.Clear:
		m.tell(c, api.Cleared)
		m.known, m.kind, m.holder = known{}, 0, 0
	case api.Preempt:
		takes := all && c.New == 0 || m.kind > 0 && !all && holderKey == c.New
		if c.New == 0 && !takes {
			return api.ErrField
		}
		if takes {
			m.hold(c)
		}
		if takes && was.kind != c.Type {
			m.tell(c, api.Freed)
		}
		for i, key := range was.known {
			if i != me && key > 0 && (c.New == 0 || c.New == key) {
				m.known[i], m.told[i] = 0, api.Lost
			}
		}
		if !takes && m.known == was.known && was.known[me] != c.New {
			return api.ErrConflict
		}
	}
	return api.OK
}

// tells: what is told, Lost ahead of all else.
func (m *model) tells() []api.Tell {
	var lost, other []api.Tell
	for i, what := range m.told {
		if what == api.Lost {
			lost = append(lost, api.Tell{Who: i + 1, What: what})
		} else if what > 0 {
			other = append(other, api.Tell{Who: i + 1, What: what})
		}
	}
	return append(lost, other...)
}

// wanted of a command.
func wanted(k known, s api.State, c api.Command) (api.State, []api.Tell, error) {
	key := k[c.Who-1]
	if c.Op != api.Ignore && key != c.Key || c.Op > api.Ignore && key == 0 {
		return api.State{}, nil, api.ErrConflict
	}
	m := model{known: k, kind: s.Type, holder: s.Holder}
	if err := m.ask(c); err != api.OK {
		return api.State{}, nil, err
	}
	then := api.State{Gen: s.Gen, Regs: m.regs(), Type: m.kind, Holder: m.holder, Stays: s.Stays}
	if c.Op != api.Reserve && c.Op != api.Release {
		then.Gen = (s.Gen + 1) % (api.MaxGen + 1)
	}
	if c.Op <= api.Ignore {
		then.Stays = c.Stays
	}
	return then, m.tells(), nil
}

// same: an empty list may be nil or not.
func same(a, b api.State) bool {
	return slices.Equal(a.Regs, b.Regs) && a.Gen == b.Gen && a.Type == b.Type && a.Holder == b.Holder && a.Stays == b.Stays
}

// D1 to D4, of all states and commands that may be, of a few keys: and the state behind it is one that may be.
func TestDoAll(t *testing.T) {
	l, bad := commands(), 0
	states(func(k known, s api.State) {
		for _, c := range l {
			got, told, err := order.Do(s, c)
			want, wantTold, wantErr := wanted(k, s, c)
			if err != wantErr || !same(got, want) || !slices.Equal(told, wantTold) || hold.Check(got) != nil {
				if bad++; bad < 10 {
					t.Errorf("Do(%v, %v) = %v, %v, %v, want %v, %v, %v", s, c, got, told, err, want, wantTold, wantErr)
				}
			}
		}
	})
}

// D5: by the rights of each.
func TestLessByRights(t *testing.T) {
	for _, x := range []struct {
		s, t string
		want bool
	}{
		{"0 0 0 goes", "0 0 0 goes", false},
		{"0 0 0 goes 1:1", "1 1 1 goes 1:1", true},
		{"1 1 1 goes 1:1", "0 0 0 goes 1:1", false},
		{"0 1 1 goes 1:1 2:1", "0 3 1 goes 1:1 2:1", true},
		{"0 3 1 goes 1:1 2:1", "0 1 1 goes 1:1 2:1", false},
		{"0 3 1 goes 1:1 2:1", "0 3 2 goes 1:1 2:1", true},
		{"0 7 0 goes 1:1 2:1 3:1 4:1", "0 8 0 goes 1:1 2:1 3:1 4:1", false},
		{"0 7 0 goes 1:1 2:1 3:1 4:1", "0 7 0 goes 1:1 2:1 3:1", true},
		{"0 7 0 goes 1:1 2:1 3:1", "0 7 0 goes 1:1 2:1 3:1 4:1", false},
		{"0 5 1 goes 1:1 2:1", "0 1 1 goes 1:1 2:1", true},
	} {
		if got := order.Less(stateOf(t, x.s), stateOf(t, x.t), rights.May); got != x.want {
			t.Errorf("Less(%s, %s) = %v", x.s, x.t, got)
		}
	}
}

// D5: by may alone, of each from 1 to MaxWho and nobody else, be it to read or to write.
func TestLessByMay(t *testing.T) {
	s, then := api.State{Gen: 1}, api.State{Gen: 2}
	for n := range api.MaxWho + 2 {
		for _, w := range []bool{false, true} {
			loses := func(x api.State, who int, write bool) bool { return x.Gen == 1 || who != n || write != w }
			gains := func(x api.State, who int, write bool) bool { return x.Gen == 2 || who != n || write != w }
			never := func(x api.State, who int, write bool) bool { return who != n || write != w }
			swaps := func(x api.State, who int, write bool) bool { return who == n && write == (x.Gen == 1) == w }
			asks := n >= 1 && n <= api.MaxWho
			if got := order.Less(s, then, loses); got != asks {
				t.Errorf("%d, write %v, may no more: %v", n, w, got)
			}
			if order.Less(s, then, gains) || order.Less(s, then, never) {
				t.Errorf("%d, write %v, may from now on, or never: %v, %v", n, w, order.Less(s, then, gains), order.Less(s, then, never))
			}
			if got := order.Less(s, then, swaps); got != asks {
				t.Errorf("%d may the one instead of the other: %v", n, got)
			}
		}
	}
}

// Z2: what is handed in stays as it is, and so does what lies behind it; what comes out is the caller's, and hangs on nothing else.
func TestListsAreNotShared(t *testing.T) {
	memory := []api.Reg{{Who: 1, Key: 1}, {Who: 2, Key: 2}, {Who: 3, Key: 1}, {Who: 4, Key: 77}, {Who: 9, Key: 99}}
	was := slices.Clone(memory)
	for _, kind := range []int{0, api.WriteKnown, api.WriteAll} {
		s := api.State{Regs: memory[:3], Type: kind}
		if kind == api.WriteKnown {
			s.Holder = 1
		}
		for _, c := range commands() {
			got, told, err := order.Do(s, c)
			wantRegs, wantTold := slices.Clone(got.Regs), slices.Clone(told)
			order.Less(s, got, rights.May)
			if !slices.Equal(memory, was) {
				t.Fatalf("Do(%v, %v) wrote into what was handed in", s, c)
			}
			clear(memory)
			if !slices.Equal(got.Regs, wantRegs) {
				t.Errorf("Do(.., %v) kept what was handed in", c)
			}
			copy(memory, was)
			clear(got.Regs[:cap(got.Regs)])
			if !slices.Equal(memory, was) {
				t.Fatalf("Do(.., %v) handed out what was handed in", c)
			}
			again, toldAgain, errAgain := order.Do(s, c)
			if !slices.Equal(again.Regs, wantRegs) || !slices.Equal(toldAgain, wantTold) || err != errAgain {
				t.Errorf("Do(%v, %v) answers otherwise when asked again", s, c)
			}
		}
	}
}

// Z1, Z3: no state, and no command, makes a call panic; errors are bare, and stand alone.
func TestNoPanic(t *testing.T) {
	ends := []int{math.MinInt, -1, 0, 1, 4, 5, 7, 9, 1000, math.MaxInt}
	for op := -1; op < 12; op++ {
		for _, n := range ends {
			for _, m := range ends {
				for _, regs := range [][]api.Reg{nil, {}, {{Who: n, Key: m}}, {{Who: m, Key: n}, {Who: n, Key: n}, {Who: n, Key: m}}} {
					s := api.State{Gen: n, Regs: regs, Type: m, Holder: n}
					c := api.Command{Op: op, Who: n, Key: m, New: n, Type: m, At: n, Stays: true, Data: "?", Want: "long enough"}
					got, told, err := order.Do(s, c)
					if err != nil {
						if _, ok := err.(api.Errno); !ok || told != nil || !reflect.DeepEqual(got, api.State{}) {
							t.Errorf("Do(%v, %v) = %v, %v, %T", s, c, got, told, err)
						}
					}
					order.Less(s, got, rights.May)
				}
			}
		}
	}
	if order.Less(api.State{}, api.State{}, nil) {
		t.Error("by no may at all somebody may do less")
	}
}
