package tick_test

import (
	"slices"

	"hoistway/api"
)

// model is a simulation by the chapters' words alone, with none of the layers' code: floors are gone through one by one, and where a car was is kept tick by tick.
type model struct {
	s       api.Scenario
	tick    int
	cars    []api.Car
	waiting []api.Waiter // in the order in which they came
	calls   []api.Call
	trips   []api.Trip
	ways    [][]spot
}

// spot is where a car is behind a tick, and whether its door is other than closed.
type spot struct {
	pos  int
	door bool
}

// floors has the floors of a building that are in it.
type floors map[int]bool

func newModel(s api.Scenario) *model {
	m := &model{s: s, ways: make([][]spot, s.Cars)}
	for i := range s.Cars {
		// The first floor whose car it is; a car that has none is at the highest one.
		home := s.Floors - 1
		for f := s.Floors - 1; f >= 0; f-- {
			if f*s.Cars/s.Floors >= i {
				home = f
			}
		}
		m.cars = append(m.cars, api.Car{Pos: home * s.Gap})
	}
	return m
}

// play: P46.2's Run.
func (m *model) play(people []api.Passenger) api.Log {
	for m.tick < m.s.Horizon {
		m.step(people)
	}
	return m.log()
}

// step: P46.1's Step.
func (m *model) step(people []api.Passenger) {
	for _, p := range people {
		if p.Tick == m.tick {
			m.admit(p)
		}
	}
	for i := range m.cars {
		m.stepCar(i)
	}
	for i, c := range m.cars {
		m.ways[i] = append(m.ways[i], spot{c.Pos, c.Mode == api.Opening || c.Mode == api.Open || c.Mode == api.Closing})
	}
	m.tick++
}

// admit: P45.2.
func (m *model) admit(p api.Passenger) {
	m.trips = append(m.trips, api.Trip{Id: p.Id, Arrive: p.Tick, From: p.From, To: p.To, Car: -1, Board: -1, Alight: -1})
	w := api.Waiter{Id: p.Id, From: p.From, To: p.To, Car: -1}
	if m.s.Dispatcher == api.Destination {
		w.Car = m.choose(p)
		m.waiting = append(m.waiting, w)
		return
	}
	m.waiting = append(m.waiting, w)
	if !slices.ContainsFunc(m.calls, func(c api.Call) bool { return c.Floor == p.From && c.Dir == sign(p.To-p.From) }) {
		m.calls = append(m.calls, api.Call{Floor: p.From, Dir: sign(p.To - p.From), Car: m.choose(p)})
	}
}

// choose: P45.1.
func (m *model) choose(p api.Passenger) int {
	if m.s.Dispatcher == api.Sectors {
		return p.From * m.s.Cars / m.s.Floors
	}
	best, least := -1, 0
	for i, c := range m.cars {
		cost := 0
		switch m.s.Dispatcher {
		case api.Collective:
			cost = m.near(c, p.From, sign(p.To-p.From))
		case api.Soonest:
			cost = m.eta(c, m.stops(i), p.From, sign(p.To-p.From))
		case api.Destination:
			cost = m.aim(c, m.stops(i), p)
		}
		if best < 0 || cost < least {
			best, least = i, cost
		}
	}
	return best
}

// near: P32.1.
func (m *model) near(c api.Car, floor, dir int) int {
	at, top := floor*m.s.Gap, (m.s.Floors-1)*m.s.Gap
	cost := size(c.Pos - at)
	if c.Dir == 0 {
		return cost
	}
	if sign(at-c.Pos) == -c.Dir {
		return cost + 2*top
	}
	if dir != c.Dir {
		return cost + top
	}
	return cost
}

// stops: P45.1's Stops of a car.
func (m *model) stops(i int) floors {
	up, down := m.lands(i)
	return m.rides(m.cars[i]).and(up).and(down)
}

// between: how many stops lie between two places.
func (m *model) between(stops floors, a, b int) int {
	n := 0
	for f := range stops {
		if at := f * m.s.Gap; at > min(a, b) && at < max(a, b) {
			n++
		}
	}
	return n
}

// eta: P34.2.
func (m *model) eta(c api.Car, stops floors, floor, dir int) int {
	s, at := m.s, floor*m.s.Gap
	stop := s.Open + s.Transfer + s.Dwell + s.Close
	door := 0
	switch c.Mode {
	case api.Opening:
		door = c.Left + s.Transfer + s.Dwell + s.Close
	case api.Open:
		door = c.Left + s.Dwell + s.Close
	case api.Closing:
		door = c.Left
	}
	ahead, turn, behind := 0, c.Pos, 0
	for f := range stops {
		if c.Dir == 0 || (f*s.Gap-c.Pos)*c.Dir <= 0 {
			continue
		}
		ahead++
		if size(f*s.Gap-c.Pos) > size(turn-c.Pos) {
			turn = f * s.Gap
		}
		if (f-floor)*c.Dir > 0 {
			behind++
		}
	}
	inWay := (at-c.Pos)*c.Dir >= 0
	if ahead == 0 || inWay && (dir == c.Dir || behind == 0) {
		return door + size(at-c.Pos) + stop*m.between(stops, c.Pos, at)
	}
	n := ahead
	if !inWay {
		n += m.between(stops, c.Pos, at)
	}
	return door + size(turn-c.Pos) + size(turn-at) + stop*n
}

// aim: P41.1's Cost.
func (m *model) aim(c api.Car, stops floors, p api.Passenger) int {
	s := m.s
	n := m.between(stops, p.From*s.Gap, p.To*s.Gap)
	if !stops[p.From] {
		n++
	}
	if !stops[p.To] {
		n++
	}
	return m.eta(c, stops, p.From, sign(p.To-p.From)) + n*(s.Open+s.Transfer+s.Dwell+s.Close) + len(c.Riders)
}

// lands: the floors up and down to which a car is sent, or at which someone waits for it.
func (m *model) lands(i int) (floors, floors) {
	up, down := floors{}, floors{}
	land := func(floor, dir, car int) {
		if car == i && dir > 0 {
			up[floor] = true
		}
		if car == i && dir < 0 {
			down[floor] = true
		}
	}
	for _, c := range m.calls {
		land(c.Floor, c.Dir, c.Car)
	}
	for _, w := range m.waiting {
		land(w.From, sign(w.To-w.From), w.Car)
	}
	return up, down
}

func (m *model) rides(c api.Car) floors {
	l := floors{}
	for _, r := range c.Riders {
		l[r.To] = true
	}
	return l
}

// look: does a car stop at its floor, and which way does it face there (P31.2, P31.3)?
func (m *model) look(i int) (bool, int) {
	c := m.cars[i]
	floor := c.Pos / m.s.Gap
	up, down := m.lands(i)
	if len(c.Riders) >= m.s.Capacity {
		up, down = floors{}, floors{}
	}
	wants := m.rides(c).and(up).and(down)
	call := func(dir int) bool { return dir > 0 && up[floor] || dir < 0 && down[floor] }
	on := func(dir int) bool {
		for f := range wants {
			if (f-floor)*dir > 0 {
				return true
			}
		}
		return false
	}
	stop := m.rides(c)[floor] || call(c.Dir) || c.Dir == 0 && (call(1) || call(-1)) || call(-c.Dir) && !on(c.Dir)
	faces := 0
	switch {
	case c.Dir != 0 && (call(c.Dir) || on(c.Dir)):
		faces = c.Dir
	case c.Dir != 0 && (call(-c.Dir) || on(-c.Dir)):
		faces = -c.Dir
	case c.Dir != 0:
	case call(1):
		faces = 1
	case call(-1):
		faces = -1
	case on(1):
		faces = 1
	case on(-1):
		faces = -1
	}
	return stop, faces
}

// stepCar: P43.2, P40.1.
func (m *model) stepCar(i int) {
	c := &m.cars[i]
	if c.Mode == api.Idle || c.Mode == api.Moving {
		if c.Pos%m.s.Gap != 0 {
			c.Pos += c.Dir
			return
		}
		stop, faces := m.look(i)
		c.Dir = faces
		switch {
		case stop:
			c.Mode, c.Left = api.Opening, m.s.Open
		case faces == 0:
			c.Mode = api.Idle
		default:
			c.Mode = api.Moving
			c.Pos += faces
		}
		return
	}
	c.Left--
	if c.Left > 0 {
		return
	}
	if c.Mode == api.Closing {
		c.Mode = api.Idle
		return
	}
	m.serve(i)
}

// serve: P39.1.
func (m *model) serve(i int) {
	c := &m.cars[i]
	floor := c.Pos / m.s.Gap
	_, c.Dir = m.look(i)
	c.Mode = api.Open
	for at, r := range c.Riders {
		if r.To == floor {
			c.Riders = slices.Concat(c.Riders[:at], c.Riders[at+1:])
			m.trips[r.Id].Alight = m.tick
			c.Left, c.Waited = m.s.Transfer, false
			return
		}
	}
	whom := -1
	if m.s.Dispatcher == api.Destination {
		whom = i
	}
	here := func(w api.Waiter) bool {
		return w.From == floor && sign(w.To-w.From) == c.Dir && w.Car == whom
	}
	if at := slices.IndexFunc(m.waiting, here); at >= 0 && c.Dir != 0 && len(c.Riders) < m.s.Capacity {
		w := m.waiting[at]
		m.waiting = slices.Concat(m.waiting[:at], m.waiting[at+1:])
		c.Riders = append(slices.Clip(c.Riders), api.Rider{Id: w.Id, To: w.To})
		m.trips[w.Id].Car, m.trips[w.Id].Board = i, m.tick
		c.Left, c.Waited = m.s.Transfer, false
		if m.s.Dispatcher != api.Destination && !slices.ContainsFunc(m.waiting, here) {
			m.calls = slices.DeleteFunc(m.calls, func(x api.Call) bool { return x.Floor == floor && x.Dir == c.Dir })
		}
		return
	}
	if !c.Waited {
		c.Left, c.Waited = m.s.Dwell, true
		return
	}
	c.Mode, c.Left, c.Waited = api.Closing, m.s.Close, false
}

// state: P43.3.
func (m *model) state() api.State {
	return api.State{Tick: m.tick, Cars: m.cars, Waiting: m.waiting, Calls: m.calls, Trips: m.trips}
}

// log: P46.2's Log.
func (m *model) log() api.Log {
	l := api.Log{Trips: m.trips}
	for _, way := range m.ways {
		l.Legs = append(l.Legs, legs(way))
	}
	return l
}

// legs: P25.1: from the first tick on each one has as many ticks as it may.
func legs(way []spot) []api.Leg {
	var l []api.Leg
	for from := 0; from < len(way); {
		leg := api.Leg{Tick: from, Pos: way[from].pos, Door: way[from].door}
		to := from + 1
		if to < len(way) && way[to].door == leg.Door && size(way[to].pos-leg.Pos) <= 1 {
			leg.Dir = way[to].pos - leg.Pos
		}
		for to < len(way) && way[to] == (spot{leg.Pos + leg.Dir*(to-from), leg.Door}) {
			to++
		}
		l = append(l, leg)
		from = to
	}
	return l
}

// and: what is in one of two.
func (l floors) and(other floors) floors {
	both := floors{}
	for f := range l {
		both[f] = true
	}
	for f := range other {
		both[f] = true
	}
	return both
}

func sign(n int) int {
	switch {
	case n < 0:
		return -1
	case n > 0:
		return 1
	}
	return 0
}

func size(n int) int { return max(n, -n) }
