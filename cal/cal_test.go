package cal_test

import (
	"math"
	"math/rand/v2"
	"runtime"
	"testing"

	"hoistway/api"
	"hoistway/cal"
)

// plain is what is to happen, by the document's words: no thing stands in it twice.
type plain []api.Entry

func (p *plain) place(kind, id int) int {
	for i, e := range *p {
		if e.Kind == kind && e.Id == id {
			return i
		}
	}
	return -1
}

func (p *plain) set(kind, id, time int) {
	p.drop(kind, id)
	*p = append(*p, api.Entry{Time: time, Kind: kind, Id: id})
}

func (p *plain) drop(kind, id int) bool {
	i := p.place(kind, id)
	if i < 0 {
		return false
	}
	*p = append((*p)[:i:i], (*p)[i+1:]...)
	return true
}

func (p *plain) first() (api.Entry, bool) {
	var first api.Entry
	for i, e := range *p {
		ahead := e.Time < first.Time || e.Time == first.Time && (e.Kind < first.Kind || e.Kind == first.Kind && e.Id < first.Id)
		if i == 0 || ahead {
			first = e
		}
	}
	return first, len(*p) > 0
}

// alike: does a calendar tell what is to happen?
func alike(t *testing.T, c *cal.Calendar, p *plain) {
	t.Helper()
	if c.Len() != len(*p) {
		t.Fatalf("Len: %d; want %d", c.Len(), len(*p))
	}
	want, some := p.first()
	if got, ok := c.Peek(); got != want || ok != some {
		t.Fatalf("Peek: %v, %v; want %v, %v", got, ok, want, some)
	}
	for _, e := range *p {
		if time, ok := c.At(e.Kind, e.Id); time != e.Time || !ok {
			t.Fatalf("At(%d, %d): %d, %v; want %d", e.Kind, e.Id, time, ok, e.Time)
		}
	}
}

// drained: all of it, in order.
func drained(t *testing.T, c *cal.Calendar, p *plain) {
	t.Helper()
	for len(*p) > 0 {
		alike(t, c, p)
		want, _ := p.first()
		if got, ok := c.Pop(); got != want || !ok {
			t.Fatalf("Pop: %v, %v; want %v", got, ok, want)
		}
		p.drop(want.Kind, want.Id)
		if time, ok := c.At(want.Kind, want.Id); time != 0 || ok {
			t.Fatalf("At behind Pop of %v: %d, %v", want, time, ok)
		}
	}
	none(t, c)
}

func none(t *testing.T, c *cal.Calendar) {
	t.Helper()
	if c.Len() != 0 {
		t.Errorf("Len of nothing: %d", c.Len())
	}
	if e, ok := c.Peek(); e != (api.Entry{}) || ok {
		t.Errorf("Peek of nothing: %v, %v", e, ok)
	}
	if e, ok := c.Pop(); e != (api.Entry{}) || ok {
		t.Errorf("Pop of nothing: %v, %v", e, ok)
	}
	for _, n := range edges() {
		if time, ok := c.At(n, n); time != 0 || ok {
			t.Errorf("At(%d, %d) of nothing: %d, %v", n, n, time, ok)
		}
		if c.Drop(n, n) {
			t.Errorf("Drop(%d, %d) of nothing: true", n, n)
		}
	}
}

func edges() []int { return []int{math.MinInt, -1, 0, 1, math.MaxInt} }

// P18.1
func TestZero(t *testing.T) {
	var c cal.Calendar
	none(t, &c)
	c.Clear()
	none(t, &c)
	c.Set(3, 4, 5)
	alike(t, &c, &plain{{Time: 5, Kind: 3, Id: 4}})
}

// P18.1: the document's example, and times that change.
func TestExample(t *testing.T) {
	c := &cal.Calendar{}
	c.Set(1, 0, 9)
	c.Set(1, 0, 5)
	if e, ok := c.Pop(); e != (api.Entry{Time: 5, Kind: 1}) || !ok || c.Len() != 0 {
		t.Error(e, ok, c.Len())
	}
	none(t, c)
	for _, times := range [][]int{{5, 9}, {9, 5}, {5, 9, 5}, {9, 5, 9}, {5, 5}, {5, 9, 5, 9, 5}, {0, math.MinInt, math.MaxInt}, {7, 0}} {
		for _, time := range times {
			c.Set(2, 7, time)
		}
		last := times[len(times)-1]
		drained(t, c, &plain{{Time: last, Kind: 2, Id: 7}})
	}
}

// P18.1: what was to happen at one time is no more, when it is to happen at another one, or was dropped.
func TestDrop(t *testing.T) {
	c := &cal.Calendar{}
	c.Set(1, 1, 5)
	c.Set(1, 2, 6)
	if !c.Drop(1, 1) || c.Drop(1, 1) || c.Drop(2, 1) {
		t.Error("Drop")
	}
	alike(t, c, &plain{{Time: 6, Kind: 1, Id: 2}})
	// Of the time ahead nothing is left.
	c.Set(1, 1, 7)
	alike(t, c, &plain{{Time: 6, Kind: 1, Id: 2}, {Time: 7, Kind: 1, Id: 1}})
	c.Drop(1, 1)
	c.Set(1, 1, 5)
	drained(t, c, &plain{{Time: 5, Kind: 1, Id: 1}, {Time: 6, Kind: 1, Id: 2}})
	// A thing that has happened may happen once more, at the same time, too.
	c.Set(1, 1, 5)
	c.Set(1, 1, 6)
	c.Set(1, 1, 5)
	c.Pop()
	none(t, c)
	c.Set(1, 1, 5)
	drained(t, c, &plain{{Time: 5, Kind: 1, Id: 1}})
}

// P18.1: kinds and numbers of any size, in layer 6's order.
func TestEdges(t *testing.T) {
	c, p := &cal.Calendar{}, &plain{}
	for i, kind := range edges() {
		for k, id := range edges() {
			time := edges()[(i+2*k)%5]
			c.Set(kind, id, time)
			p.set(kind, id, time)
		}
	}
	drained(t, c, p)
}

// P18.1
func TestClear(t *testing.T) {
	c := &cal.Calendar{}
	for id := range 100 {
		c.Set(id%3, id, 1000-id)
	}
	c.Clear()
	none(t, c)
	c.Set(0, 0, 2000)
	drained(t, c, &plain{{Time: 2000}})
}

// P18.1: calls of all kinds, mixed.
func TestMixed(t *testing.T) {
	for seed := range uint64(60) {
		r := rand.New(rand.NewPCG(seed, 18))
		c, p := &cal.Calendar{}, &plain{}
		// Of few things and of many.
		kinds, ids, times := 1+r.IntN(3), 1+r.IntN(1+int(seed)), 1+r.IntN(30)
		for range 600 {
			kind, id, time := r.IntN(kinds)-1, r.IntN(ids)-1, r.IntN(times)-3
			switch n := r.IntN(100); {
			case n < 60:
				c.Set(kind, id, time)
				p.set(kind, id, time)
			case n < 80:
				if got, want := c.Drop(kind, id), p.drop(kind, id); got != want {
					t.Fatalf("Drop(%d, %d): %v", kind, id, got)
				}
			case n < 99:
				want, some := p.first()
				if got, ok := c.Pop(); got != want || ok != some {
					t.Fatalf("Pop: %v, %v; want %v, %v", got, ok, want, some)
				}
				p.drop(want.Kind, want.Id)
			default:
				c.Clear()
				*p = nil
			}
			alike(t, c, p)
			at := p.place(kind, id)
			if _, ok := c.At(kind, id); ok != (at >= 0) {
				t.Fatalf("At(%d, %d): %v", kind, id, ok)
			}
		}
		drained(t, c, p)
	}
}

// kept: how much memory there is behind some calls more than ahead of them.
func kept(c *cal.Calendar, calls func()) int {
	var ahead, behind runtime.MemStats
	runtime.GC()
	runtime.ReadMemStats(&ahead)
	calls()
	runtime.GC()
	runtime.ReadMemStats(&behind)
	runtime.KeepAlive(c)
	return int(behind.HeapAlloc) - int(ahead.HeapAlloc)
}

// What isn't to happen any more isn't kept, while something else is.
func TestKept(t *testing.T) {
	const many, most = 500000, 1 << 20
	c := &cal.Calendar{}
	c.Set(0, 0, 0)
	if n := kept(c, func() {
		for time := range many {
			c.Set(1, 1, time)
		}
	}); n > most {
		t.Errorf("behind Set %d bytes", n)
	}
	if n := kept(c, func() {
		for time := range many {
			c.Set(1, 1, time)
			c.Drop(1, 1)
		}
	}); n > most {
		t.Errorf("behind Drop %d bytes", n)
	}
	if n := kept(c, func() {
		for time := range many {
			c.Set(2, 2, time)
			c.Set(2, 2, -1)
			c.Pop()
		}
	}); n > most {
		t.Errorf("behind Pop %d bytes", n)
	}
}

// Nor is it, when nothing else is to happen.
func TestKeptOfNone(t *testing.T) {
	const many, most = 100000, 1 << 20
	fill := func(c *cal.Calendar) {
		for id := range many {
			c.Set(1, id, 5)
		}
	}
	for name, empty := range map[string]func(*cal.Calendar){
		"Drop": func(c *cal.Calendar) {
			for id := range many {
				c.Drop(1, id)
			}
		},
		"Clear": func(c *cal.Calendar) { c.Clear() },
	} {
		c := &cal.Calendar{}
		fill(c)
		// An entry has 24 bytes.
		if n := kept(c, func() { empty(c) }); n > -24*many+most {
			t.Errorf("behind %s %d bytes more", name, n)
		}
		none(t, c)
		c.Set(7, 7, 7)
		drained(t, c, &plain{{Time: 7, Kind: 7, Id: 7}})
	}
}
