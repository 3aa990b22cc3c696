package target

import (
	"slices"

	"kissinggate/api"
	"kissinggate/code"
	"kissinggate/order"
	"kissinggate/rights"
	"kissinggate/tell"
)

// Ask for something: data, the tag of what waits (0: nothing does), what is told (0: nothing; else it is not done), and what is wrong.
func (t *Target) Ask(c api.Command) (data string, tag, what int, err error) {
	if err = code.Check(c); err != nil {
		return
	}
	if t.box, what = tell.Take(t.box, c.Who); what != 0 {
		return
	}
	switch c.Op {
	case api.Read:
		data, err = t.read(c)
	case api.Write:
		tag, err = t.write(c)
	case api.Compare:
		tag, err = t.compare(c)
	default:
		err = t.change(c)
	}
	return
}

// change who is known, and who holds.
func (t *Target) change(c api.Command) error {
	was := t.State()
	s, told, err := order.Do(was, c)
	if err != nil {
		return err
	}
	if order.Less(was, s, rights.May) {
		// What they wrote may still fly, and is of the epoch that ends.
		err = t.begin(s)
	} else {
		err = t.k.Keep(t.Epoch(), s)
	}
	if err != nil {
		return err
	}
	for _, x := range told {
		t.box = tell.Add(t.box, x)
	}
	return nil
}

// allow who asks for a block to use it.
func (t *Target) allow(c api.Command) error {
	if !rights.May(t.State(), c.Who, c.Op != api.Read) {
		return api.ErrConflict
	}
	return t.ready()
}

func (t *Target) read(c api.Command) (string, error) {
	if err := t.allow(c); err != nil {
		return "", err
	}
	g, cell, ok := t.g.Read(t.Epoch(), c.At)
	if !ok {
		return "", api.ErrBusy
	}
	t.g = g
	return cell.Data, nil
}

func (t *Target) compare(c api.Command) (int, error) {
	if err := t.allow(c); err != nil {
		return 0, err
	}
	g, cell, ok := t.g.Read(t.Epoch(), c.At)
	if !ok || t.fliesTo(c.At) {
		return 0, api.ErrBusy
	}
	if cell.Data != c.Want {
		return 0, api.ErrDiffer
	}
	tag, err := t.send(c)
	if err == nil {
		// Just now: a call that goes wrong leaves the cells as they are, too.
		t.g = g
	}
	return tag, err
}

// fliesTo a block: does a message of this epoch?
func (t *Target) fliesTo(at int) bool {
	epoch := t.Epoch()
	return slices.ContainsFunc(t.flying, func(m api.Message) bool {
		return m.At == at && m.Cell.Epoch == epoch
	})
}

func (t *Target) write(c api.Command) (int, error) {
	if err := t.allow(c); err != nil {
		return 0, err
	}
	return t.send(c)
}

// send what is to be written to each of the group, also to those that are down: it may come when they are up.
func (t *Target) send(c api.Command) (int, error) {
	if len(t.waits) >= api.MaxWaiting || len(t.flying)+api.Many > api.MaxFlying {
		return 0, api.ErrFull
	}
	t.number++
	t.done = append(t.done, false)
	tag := len(t.done)
	cell := api.Cell{Epoch: t.Epoch(), Number: t.number, Data: c.Data}
	for i := range api.Many {
		t.flying = append(t.flying, api.Message{To: i, At: c.At, Cell: cell, Tag: tag})
	}
	t.waits[tag] = 0
	return tag, nil
}
