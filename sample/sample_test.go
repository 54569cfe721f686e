package sample_test

import (
	"math/rand/v2"
	"testing"

	"hoistway/sample"
	"hoistway/trip"
)

func TestLegs(t *testing.T) {
	for seed := range uint64(100) {
		l := sample.Legs(rand.New(rand.NewPCG(seed, 0)).IntN, 20, 3, 9)
		if len(l) != 20 || l[0].Tick != 3 {
			t.Fatal(l)
		}
		for i, g := range l {
			if i > 0 && g.Tick <= l[i-1].Tick || g.Pos < 0 || g.Pos >= 9 || g.Dir < -1 || g.Dir > 1 {
				t.Fatal(l)
			}
		}
	}
}

func TestTrips(t *testing.T) {
	for seed := range uint64(100) {
		l := sample.Trips(rand.New(rand.NewPCG(seed, 1)).IntN, 50, 4, 2, 9)
		if done, ride, wait := trip.Counts(l); done == 0 || ride == 0 || wait == 0 || done+ride+wait != 50 {
			t.Fatal(l)
		}
		for i, x := range l {
			waits := x.Car == -1 && x.Board == -1 && x.Alight == -1
			rides := 0 <= x.Car && x.Car < 2 && x.Arrive <= x.Board && x.Board < 9 && (x.Alight == -1 || x.Board <= x.Alight && x.Alight < 9)
			if x.Id != i || x.Arrive < 0 || x.From < 0 || x.From >= 4 || x.To < 0 || x.To >= 4 || !waits && !rides {
				t.Fatal(x)
			}
		}
	}
}
