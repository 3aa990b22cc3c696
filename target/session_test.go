package target_test

import (
	"errors"
	"fmt"
	"strconv"
	"strings"
	"testing"

	"kissinggate/api"
	"kissinggate/code"
	"kissinggate/disk"
	"kissinggate/group"
	"kissinggate/keeper"
	"kissinggate/report"
	"kissinggate/target"
)

// rig: a target, the disk it is on, and the test that uses it.
type rig struct {
	t *testing.T
	d *disk.Disk
	u *target.Target
}

// keeping: a disk that keeps an epoch and a state.
func keeping(t *testing.T, epoch int, s api.State) *disk.Disk {
	t.Helper()
	d, err := disk.New(api.Sectors)
	if err != nil {
		t.Fatal(err)
	}
	if err = keeper.Format(d); err != nil {
		t.Fatal(err)
	}
	k, err := keeper.Open(d)
	if err != nil {
		t.Fatal(err)
	}
	if err = k.Keep(epoch, s); err != nil {
		t.Fatal(err)
	}
	return d
}

// floors: a group of these, all of them up.
func floors(l ...int) group.Group {
	g := group.New()
	for i, f := range l {
		g.R[i].Floor = f
	}
	return g
}

// over a disk that keeps an epoch and the state of a text: a target, whose group is of that epoch.
func over(t *testing.T, epoch int, state string) *rig {
	t.Helper()
	s, err := report.Parse(state)
	if err != nil {
		t.Fatalf("%q: %v", state, err)
	}
	d := keeping(t, epoch, s)
	u, err := target.New(d, floors(epoch, epoch, epoch))
	if err != nil || u == nil {
		t.Fatalf("New = %v, %v", u, err)
	}
	return &rig{t, d, u}
}

// fresh: a target of a new group, over a formatted disk.
func fresh(t *testing.T) *rig {
	t.Helper()
	return over(t, 1, "0 0 0 goes")
}

// command of a text.
func command(t *testing.T, text string) api.Command {
	t.Helper()
	c, err := code.Parse(text)
	if err != nil {
		t.Fatalf("%q: %v", text, err)
	}
	return c
}

// session: lines, each with what is to be answered behind " => ".
func (x *rig) session(text string) {
	x.t.Helper()
	for _, line := range strings.Split(text, "\n") {
		ask, want, ok := strings.Cut(strings.TrimSpace(line), " => ")
		if !ok {
			continue
		}
		if got := x.do(ask); got != want {
			x.t.Fatalf("%s => %s, want %s", ask, got, want)
		}
	}
}

// do what a line says, and tell what is answered.
func (x *rig) do(line string) string {
	x.t.Helper()
	word, rest, _ := strings.Cut(line, " ")
	n, _ := strconv.Atoi(rest)
	switch word {
	case "ask":
		return told(x.u.Ask(command(x.t, rest)))
	case "deliver":
		return yes(x.u.Deliver(n, false))
	case "copy":
		return yes(x.u.Deliver(n, true))
	case "done":
		return yes(x.u.Done(n), nil)
	case "lose":
		return wrong(x.u.Lose(n))
	case "up", "down":
		return wrong(x.u.Up(n, word == "up"))
	case "sync":
		return wrong(x.u.Sync(n))
	case "power":
		return wrong(x.u.Power())
	case "again":
		return x.again()
	case "cells":
		return cells(x.u.Group(), n)
	}
	return x.look(word)
}

// look at what there is.
func (x *rig) look(word string) string {
	x.t.Helper()
	switch word {
	case "state":
		return report.Text(x.u.State())
	case "keys":
		return numbers(report.Keys(x.u.State()))
	case "epoch":
		return strconv.Itoa(x.u.Epoch())
	case "waits":
		return numbers(x.u.Waiting())
	case "flying":
		return flying(x.u.Flying())
	case "group":
		return groupText(x.u.Group())
	}
	x.t.Fatalf("no such line: %s", word)
	return ""
}

// again: another target over the same disk and group.
func (x *rig) again() string {
	u, err := target.New(x.d, x.u.Group())
	if err != nil {
		return wrong(err)
	}
	x.u = u
	return "ok"
}

func wrong(err error) string {
	var e api.Errno
	switch {
	case err == nil:
		return "ok"
	case !errors.As(err, &e) || err != error(e):
		return fmt.Sprintf("not a bare api.Errno: %v", err)
	}
	return "error " + strconv.Itoa(int(e))
}

func yes(ok bool, err error) string {
	if err != nil {
		if ok {
			return "yes, with an error"
		}
		return wrong(err)
	}
	if ok {
		return "yes"
	}
	return "no"
}

// told: what an Ask answers (a Read without data, and an order that is done, are both ok).
func told(data string, tag, what int, err error) string {
	var l []string
	if data != "" {
		l = append(l, "data "+data)
	}
	if tag != 0 {
		l = append(l, "waits "+strconv.Itoa(tag))
	}
	if what != 0 {
		l = append(l, "told "+strconv.Itoa(what))
	}
	if err != nil || len(l) == 0 {
		l = append(l, wrong(err))
	}
	return strings.Join(l, ", ")
}

func numbers(n []int) string {
	var l []string
	for _, i := range n {
		l = append(l, strconv.Itoa(i))
	}
	return joined(l, " ")
}

func flying(ms []api.Message) string {
	var l []string
	for _, m := range ms {
		l = append(l, fmt.Sprint(m.To, " ", m.At, " ", cellText(m.Cell, m.Tag)))
	}
	return joined(l, "; ")
}

// cells of a block: of each of the group.
func cells(g group.Group, at int) string {
	var l []string
	for _, r := range g.R {
		l = append(l, cellText(r.Cells[at]))
	}
	return joined(l, "; ")
}

func cellText(c api.Cell, between ...int) string {
	n := append([]int{c.Epoch, c.Number}, between...)
	return numbers(n) + " " + joined([]string{c.Data}, "")
}

func groupText(g group.Group) string {
	var l []string
	for i, r := range g.R {
		l = append(l, strconv.Itoa(r.Floor)+map[bool]string{true: " up", false: " down"}[g.Up[i]])
	}
	return joined(l, "; ")
}

func joined(l []string, between string) string {
	if s := strings.Join(l, between); s != "" {
		return s
	}
	return "-"
}

// picture of all that a target shows, but for what is to be told.
func (x *rig) picture() string {
	s := fmt.Sprint(report.Text(x.u.State()), "|", x.u.Epoch(), "|", x.u.Group(), "|", x.u.Flying(), "|", x.u.Waiting(), "|")
	for tag := range 40 {
		s += yes(x.u.Done(tag), nil)
	}
	return s
}

// refuses: a line is answered by an error, and changes nothing.
func (x *rig) refuses(line string, e api.Errno) {
	x.t.Helper()
	was := x.picture()
	if got := x.do(line); got != wrong(e) {
		x.t.Fatalf("%s => %s, want %s", line, got, wrong(e))
	}
	if now := x.picture(); now != was {
		x.t.Fatalf("%s changes %s to %s", line, was, now)
	}
}

// The document's example, as far as a target has part in it.
func TestExample(t *testing.T) {
	fresh(t).session(`
		ask 1 register 0 11 goes => ok
		ask 2 register 0 22 stays => ok
		keys => 11 22
		state => 2 0 0 stays 1:11 2:22
		ask 1 reserve 11 5 => ok
		ask 2 write 0 hay => waits 1
		flying => 0 0 3 1 1 hay; 1 0 3 1 1 hay; 2 0 3 1 1 hay
		deliver 0 => yes
		deliver 0 => yes
		done 1 => yes
		waits => -
		ask 3 read 0 => data hay
		ask 3 write 0 oats => error 4
		ask 2 write 1 old => waits 2
		epoch => 3
		ask 1 preempt 11 22 5 => ok
		epoch => 4
		waits => -
		flying => 2 0 3 1 1 hay; 0 1 3 2 2 old; 1 1 3 2 2 old; 2 1 3 2 2 old
		deliver 0 => no
		deliver 0 => no
		ask 2 read 0 => told 1
		ask 2 read 0 => data hay
		ask 2 write 0 x => error 4
		ask 1 read 1 => ok
		down 2 => ok
		group => 4 up; 4 up; 4 down
		ask 1 write 1 new => waits 3
		deliver 3 => yes
		deliver 3 => no
		done 3 => no
		ask 3 read 1 => data new
		up 2 => ok
		group => 4 up; 4 up; 4 up
		ask 1 clear 11 => ok
		group => 4 up; 4 up; 4 up
		state => 4 0 0 stays
		sync 2 => error 7
		group => 4 up; 4 up; 4 up
		ask 1 compare 1 better new => error 7
		ask 1 compare 1 worse new => error 7
		copy 4 => error 8
		copy 4 => error 8
		power => ok
		ask 4 read 0 => told 4
		ask 4 read 0 => data hay
		state => 0 0 0 stays
		again => ok
		epoch => 6`)
}
