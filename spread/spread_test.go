package spread_test

import (
	"math"
	"slices"
	"testing"

	"downpour/api"
	"downpour/rand"
	"downpour/soliton"
	"downpour/spread"
	"downpour/vec"
)

// wrong are such as may not be.
func wrong() []api.Params {
	return []api.Params{
		{},
		{K: 0, P: 1, Size: 1}, {K: -1, P: 1, Size: 1}, {K: 65, P: 1, Size: 1}, {K: math.MinInt, P: 1, Size: 1}, {K: math.MaxInt, P: 1, Size: 1},
		{K: 1, P: -1, Size: 1}, {K: 1, P: 17, Size: 1}, {K: 1, P: math.MaxInt, Size: 1},
		{K: 1, P: 0, Size: 0}, {K: 1, P: 0, Size: -1}, {K: 1, P: 0, Size: 17}, {K: 1, P: 0, Size: math.MaxInt},
	}
}

// right are such as may be, at the edges and within.
func right() []api.Params {
	l := []api.Params{}
	for _, k := range []int{1, 2, 7, 32, 63, 64} {
		for _, p := range []int{0, 1, 5, 16} {
			l = append(l, api.Params{Session: uint32(k * p), K: k, P: p, Size: 1}, api.Params{Session: math.MaxUint32, K: k, P: p, Size: 16})
		}
	}
	return l
}

// P8.1: what may be, and how many pieces there are.
func TestMay(t *testing.T) {
	for _, p := range right() {
		if !spread.May(p) || spread.Pieces(p) != p.K+p.P {
			t.Errorf("%+v may be", p)
		}
	}
	for _, p := range wrong() {
		if spread.May(p) || spread.Pieces(p) != 0 {
			t.Errorf("%+v may not be", p)
		}
	}
}

// P8.2: of what may not be, there is no row.
func TestRowRefuses(t *testing.T) {
	for _, p := range wrong() {
		for _, id := range []uint32{0, 1, 70, math.MaxUint32} {
			if spread.Row(p, id) != nil {
				t.Errorf("%+v: %d", p, id)
			}
		}
	}
}

// P8.2: the example: of id below K, piece id alone.
func TestRowOfPieces(t *testing.T) {
	for _, p := range right() {
		for id := range p.K {
			v := spread.Row(p, uint32(id))
			if !slices.Equal(v.List(), []int{id}) || v.Len() != p.K+p.P {
				t.Errorf("%+v: %d: %v", p, id, v.List())
			}
		}
	}
}

// P8.2, P8.3: of others, a degree by the first number, then so many pieces by the next ones.
func TestRowOfSums(t *testing.T) {
	degrees := map[int]int{}
	for _, p := range right() {
		n := p.K + p.P
		for _, id := range []uint32{uint32(p.K), uint32(p.K) + 1, uint32(n), 100, 101, 102, 103, 104, 1000, 1 << 31, math.MaxUint32} {
			s := rand.New(p.Session, id)
			d := soliton.New(n).Degree(s.Next())
			want := s.Some(n, d)
			v := spread.Row(p, id)
			if !slices.Equal(v.List(), want) || v.Len() != n || v.Count() < 1 || v.Count() != d {
				t.Errorf("%+v: %d: %v, not %v", p, id, v.List(), want)
			}
			degrees[d]++
		}
	}
	if len(degrees) < 5 {
		t.Errorf("only %d degrees come", len(degrees))
	}
}

// P8.2: a row hangs on the session, on the id, and on how many pieces there are; on nothing else.
func TestRowHangsOn(t *testing.T) {
	p := api.Params{Session: 5, K: 40, P: 6, Size: 8}
	differs := func(q api.Params, by uint32) bool {
		for id := uint32(40); id < 90; id++ {
			if !vec.Same(spread.Row(p, id), spread.Row(q, id+by)) {
				return true
			}
		}
		return false
	}
	if differs(p, 0) || differs(api.Params{Session: 5, K: 40, P: 6, Size: 9}, 0) || differs(api.Params{Session: 5, K: 39, P: 7, Size: 8}, 0) {
		t.Error("on something else")
	}
	if !differs(api.Params{Session: 6, K: 40, P: 6, Size: 8}, 0) || !differs(p, 1) || !differs(api.Params{Session: 5, K: 40, P: 7, Size: 8}, 0) {
		t.Error("not on all of it")
	}
}

// P8.2, R2: each row is the caller's own.
func TestRowIsNewMemory(t *testing.T) {
	p := api.Params{Session: 5, K: 40, P: 6, Size: 8}
	v, w := spread.Row(p, 3), spread.Row(p, 3)
	v.Set(0, true)
	if !slices.Equal(w.List(), []int{3}) || !slices.Equal(spread.Row(p, 3).List(), []int{3}) {
		t.Error("memory is shared")
	}
}
