package queue_test

import (
	"cmp"
	"math/rand/v2"
	"slices"
	"testing"

	"hoistway/api"
	"hoistway/bits"
	"hoistway/queue"
)

func waiter(id, from, to, car int) api.Waiter {
	return api.Waiter{Id: id, From: from, To: to, Car: car}
}

func key(floor, dir, car int) queue.Key {
	return queue.Key{Floor: floor, Dir: dir, Car: car}
}

// P29.1
func TestOf(t *testing.T) {
	for _, c := range []struct {
		w    api.Waiter
		want queue.Key
	}{
		{waiter(1, 3, 5, -1), key(3, 1, -1)}, {waiter(1, 3, 4, 0), key(3, 1, 0)}, {waiter(2, 5, 3, 7), key(5, -1, 7)}, {waiter(2, 127, 0, -1), key(127, -1, -1)}, {waiter(0, 0, 127, 15), key(0, 1, 15)}, {waiter(9, 4, 4, -1), key(4, 0, -1)},
	} {
		if got := queue.Of(c.w); got != c.want {
			t.Errorf("Of(%v): %v; want %v", c.w, got, c.want)
		}
	}
}

// P29.1, P29.2: the zero Hall has none.
func TestZero(t *testing.T) {
	h := &queue.Hall{}
	if h.Len(queue.Key{}) != 0 || len(h.Waiting()) != 0 || len(h.Calls()) != 0 || h.Clear(0, 0) || h.Lands(0, 1) != (api.Set{}) || h.Lands(-1, 1) != (api.Set{}) {
		t.Error("something is in it")
	}
	if w, ok := h.First(queue.Key{}); w != (api.Waiter{}) || ok {
		t.Error(w)
	}
	if w, ok := h.Take(queue.Key{}); w != (api.Waiter{}) || ok {
		t.Error(w)
	}
	if car, ok := h.Call(0, 0); car != 0 || ok {
		t.Error(car)
	}
}

// P29.1: the one who came first is the first, and rows are of a floor, a direction, a car each.
func TestRows(t *testing.T) {
	h := &queue.Hall{}
	l := []api.Waiter{waiter(5, 3, 5, -1), waiter(4, 3, 1, -1), waiter(3, 3, 9, -1), waiter(2, 3, 5, 2), waiter(1, 4, 5, -1), waiter(0, 3, 4, -1)}
	for _, w := range l {
		h.Come(w)
	}
	if got := h.Waiting(); !slices.Equal(got, []api.Waiter{l[5], l[4], l[3], l[2], l[1], l[0]}) {
		t.Error(got)
	}
	for _, c := range []struct {
		k queue.Key
		n int
	}{{key(3, 1, -1), 3}, {key(3, -1, -1), 1}, {key(3, 1, 2), 1}, {key(4, 1, -1), 1}, {key(3, 0, -1), 0}, {key(3, 1, 0), 0}, {key(5, 1, -1), 0}} {
		if n := h.Len(c.k); n != c.n {
			t.Errorf("Len(%v): %d", c.k, n)
		}
	}
	for _, want := range []api.Waiter{l[0], l[2], l[5]} {
		k := key(3, 1, -1)
		if w, ok := h.First(k); w != want || !ok {
			t.Errorf("First: %v, %v; want %v", w, ok, want)
		}
		if w, ok := h.Take(k); w != want || !ok {
			t.Errorf("Take: %v, %v; want %v", w, ok, want)
		}
	}
	if w, ok := h.Take(key(3, 1, -1)); w != (api.Waiter{}) || ok {
		t.Error(w, ok)
	}
	if got := h.Waiting(); !slices.Equal(got, []api.Waiter{l[4], l[3], l[1]}) {
		t.Error(got)
	}
}

// P29.2
func TestCalls(t *testing.T) {
	h := &queue.Hall{}
	if !h.Send(3, 1, 0) || h.Send(3, 1, 1) || h.Send(3, 1, 0) {
		t.Error("Send")
	}
	if car, ok := h.Call(3, 1); car != 0 || !ok {
		t.Error(car, ok)
	}
	if car, ok := h.Call(3, -1); car != 0 || ok {
		t.Error(car, ok)
	}
	if !h.Send(3, -1, 2) || !h.Send(0, 1, 2) || !h.Send(127, -1, 0) {
		t.Error("Send")
	}
	want := []api.Call{{Floor: 3, Dir: 1, Car: 0}, {Floor: 3, Dir: -1, Car: 2}, {Floor: 0, Dir: 1, Car: 2}, {Floor: 127, Dir: -1, Car: 0}}
	if got := h.Calls(); !slices.Equal(got, want) {
		t.Error(got)
	}
	if !h.Clear(3, 1) || h.Clear(3, 1) || h.Clear(127, 1) {
		t.Error("Clear")
	}
	if _, ok := h.Call(3, 1); ok {
		t.Error("there is a call yet")
	}
	// Made anew, a call is the last one.
	if !h.Send(3, 1, 5) {
		t.Error("Send")
	}
	if got := h.Calls(); !slices.Equal(got, append(want[1:], api.Call{Floor: 3, Dir: 1, Car: 5})) {
		t.Error(got)
	}
}

// P29.2: a floor lands a car for a call, for one who waits for it, and for both, until both are gone.
func TestLands(t *testing.T) {
	h := &queue.Hall{}
	held := func(car, dir int, floors ...int) {
		t.Helper()
		if got := h.Lands(car, dir); got != bits.Of(floors...) {
			t.Errorf("Lands(%d, %d): %v; want %v", car, dir, got, floors)
		}
	}
	h.Send(3, 1, 0)
	h.Send(5, 1, 0)
	h.Send(3, -1, 0)
	h.Send(7, 1, 1)
	held(0, 1, 3, 5)
	held(0, -1, 3)
	held(1, 1, 7)
	held(1, -1)
	h.Come(waiter(1, 3, 5, 0))
	h.Come(waiter(2, 3, 6, 0))
	h.Come(waiter(3, 127, 0, 0))
	h.Come(waiter(4, 9, 10, -1))
	held(0, 1, 3, 5)
	held(0, -1, 3, 127)
	// Who waits for any car waits for none of them alone.
	held(-1, 1)
	held(1, 1, 7)
	h.Clear(3, 1)
	held(0, 1, 3, 5)
	h.Take(key(3, 1, 0))
	held(0, 1, 3, 5)
	h.Take(key(3, 1, 0))
	held(0, 1, 5)
	h.Come(waiter(5, 5, 6, 0))
	h.Take(key(5, 1, 0))
	held(0, 1, 5)
	h.Clear(5, 1)
	held(0, 1)
	held(0, -1, 3, 127)
}

// Rule 5: what is answered is new.
func TestNew(t *testing.T) {
	h := &queue.Hall{}
	h.Come(waiter(1, 3, 5, -1))
	h.Send(3, 1, 2)
	clear(h.Waiting())
	clear(h.Calls())
	if l := h.Waiting(); l[0] != waiter(1, 3, 5, -1) {
		t.Error(l)
	}
	if l := h.Calls(); l[0] != (api.Call{Floor: 3, Dir: 1, Car: 2}) {
		t.Error(l)
	}
	_ = append(h.Waiting(), waiter(2, 3, 5, -1))
	h.Come(waiter(7, 3, 5, -1))
	h.Take(key(3, 1, -1))
	if w, ok := h.First(key(3, 1, -1)); w.Id != 7 || !ok {
		t.Error(w, ok)
	}
}

// plain is a hall as two lists, by the document's words.
type plain struct {
	waiting []api.Waiter
	calls   []api.Call
}

func (p *plain) first(k queue.Key) int {
	return slices.IndexFunc(p.waiting, func(w api.Waiter) bool { return queue.Of(w) == k })
}

func (p *plain) call(floor, dir int) int {
	return slices.IndexFunc(p.calls, func(c api.Call) bool { return c.Floor == floor && c.Dir == dir })
}

func (p *plain) lands(car, dir int) api.Set {
	var s api.Set
	for _, c := range p.calls {
		if c.Dir == dir && c.Car == car {
			s = bits.With(s, c.Floor)
		}
	}
	for _, w := range p.waiting {
		if k := queue.Of(w); k.Dir == dir && k.Car == car {
			s = bits.With(s, k.Floor)
		}
	}
	return s
}

// same: does a hall tell what a plain one does?
func same(t *testing.T, h *queue.Hall, p *plain, floors []int) {
	t.Helper()
	byId := slices.Clone(p.waiting)
	slices.SortFunc(byId, func(a, b api.Waiter) int { return cmp.Compare(a.Id, b.Id) })
	if got := h.Waiting(); !slices.Equal(got, byId) {
		t.Fatalf("Waiting: %v; want %v", got, byId)
	}
	if got := h.Calls(); !slices.Equal(got, p.calls) {
		t.Fatalf("Calls: %v; want %v", got, p.calls)
	}
	for dir := -1; dir <= 1; dir++ {
		for car := range 3 {
			if got := h.Lands(car, dir); got != p.lands(car, dir) {
				t.Fatalf("Lands(%d, %d): %v; want %v", car, dir, got, p.lands(car, dir))
			}
		}
		for _, floor := range floors {
			for car := -1; car < 3; car++ {
				k, n := key(floor, dir, car), 0
				for _, w := range p.waiting {
					if queue.Of(w) == k {
						n++
					}
				}
				var want api.Waiter
				if n > 0 {
					want = p.waiting[p.first(k)]
				}
				if got, ok := h.First(k); h.Len(k) != n || got != want || ok != (n > 0) {
					t.Fatalf("%v: %d, %v, %v; want %d, %v", k, h.Len(k), got, ok, n, want)
				}
			}
			at, want := p.call(floor, dir), 0
			if at >= 0 {
				want = p.calls[at].Car
			}
			if car, ok := h.Call(floor, dir); car != want || ok != (at >= 0) {
				t.Fatalf("Call(%d, %d): %d, %v; want %d", floor, dir, car, ok, want)
			}
		}
	}
}

// P29.1, P29.2: a long way of all of it, mixed.
func TestMixed(t *testing.T) {
	for seed := range uint64(60) {
		r := rand.New(rand.NewPCG(seed, 29))
		h, p := &queue.Hall{}, &plain{}
		floors := []int{0, 1, 64, 127}
		ids := r.Perm(1000)
		for step := range 300 {
			floor, dir, car := floors[r.IntN(4)], r.IntN(3)-1, r.IntN(3)
			switch r.IntN(4) {
			case 0:
				w := waiter(ids[step], floor, floors[r.IntN(4)], r.IntN(4)-1)
				h.Come(w)
				p.waiting = append(p.waiting, w)
			case 1:
				k := key(floor, dir, r.IntN(4)-1)
				var want api.Waiter
				at := p.first(k)
				if at >= 0 {
					want = p.waiting[at]
					p.waiting = slices.Delete(p.waiting, at, at+1)
				}
				if got, ok := h.Take(k); got != want || ok != (at >= 0) {
					t.Fatalf("Take(%v): %v, %v; want %v", k, got, ok, want)
				}
			case 2:
				none := p.call(floor, dir) < 0
				if none {
					p.calls = append(p.calls, api.Call{Floor: floor, Dir: dir, Car: car})
				}
				if got := h.Send(floor, dir, car); got != none {
					t.Fatalf("Send(%d, %d, %d): %v", floor, dir, car, got)
				}
			case 3:
				at := p.call(floor, dir)
				if at >= 0 {
					p.calls = slices.Delete(p.calls, at, at+1)
				}
				if got := h.Clear(floor, dir); got != (at >= 0) {
					t.Fatalf("Clear(%d, %d): %v", floor, dir, got)
				}
			}
			same(t, h, p, floors)
		}
	}
}
