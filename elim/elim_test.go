package elim_test

import (
	"bytes"
	"math"
	"math/rand"
	"slices"
	"testing"

	"downpour/elim"
	"downpour/vec"
)

// pieces are n different data of size bytes.
func pieces(n, size int) [][]byte {
	l := [][]byte{}
	for i := range n {
		p := make([]byte, size)
		for j := range p {
			p[j] = byte(i*37 + j*101 + i*i)
		}
		l = append(l, p)
	}
	return l
}

// sum is the data of a row: the sum of its pieces.
func sum(v *vec.Vec, l [][]byte, size int) []byte {
	out := make([]byte, size)
	for _, i := range v.List() {
		for j := range out {
			out[j] ^= l[i][j]
		}
	}
	return out
}

func chance(r *rand.Rand, n int) *vec.Vec {
	v := vec.New(n)
	for i := range n {
		v.Set(i, r.Intn(3) == 0)
	}
	return v
}

// reduced tells what is amiss with the rows' form, or nothing.
func reduced(m *elim.Matrix, n int) string {
	rank := 0
	for i := range n {
		v, _, ok := m.Row(i)
		if !ok {
			continue
		}
		rank++
		if v.First() != i {
			return "a row stands at another place than its First"
		}
		for j := range n {
			if _, _, ok := m.Row(j); ok && i != j && v.Has(j) {
				return "a First is of another row, too"
			}
		}
	}
	if rank != m.Rank() {
		return "the rank is not how many rows there are"
	}
	return ""
}

// P6.1: columns 1 to MaxBits, bytes 1 to MaxSize.
func TestNew(t *testing.T) {
	for _, ns := range [][2]int{{1, 1}, {256, 16}, {1, 16}, {256, 1}} {
		m := elim.New(ns[0], ns[1])
		if m == nil || m.Rank() != 0 || m.Full() || len(m.Solve()) != 0 {
			t.Errorf("%v", ns)
		}
	}
	for _, ns := range [][2]int{{0, 1}, {-1, 1}, {257, 1}, {1, 0}, {1, -1}, {1, 17}, {math.MaxInt, 1}, {1, math.MaxInt}, {math.MinInt, math.MinInt}} {
		if elim.New(ns[0], ns[1]) != nil {
			t.Errorf("%v is not nil", ns)
		}
	}
}

// The example: rows 11, 01 of two columns.
func TestExample(t *testing.T) {
	m := elim.New(2, 1)
	if !m.Add(vec.Of(2, []int{0, 1}), []byte{0x0f}) || m.Full() || m.Rank() != 1 {
		t.Error("the first row")
	}
	if !m.Add(vec.Of(2, []int{1}), []byte{0x05}) || !m.Full() || m.Rank() != 2 {
		t.Error("the second row")
	}
	if l := m.Solve(); len(l) != 2 || !bytes.Equal(l[0], []byte{0x0a}) || !bytes.Equal(l[1], []byte{5}) {
		t.Error(l)
	}
}

// P6.1: a row is changed by those there are, and changes those that have its First.
func TestAddReduces(t *testing.T) {
	m := elim.New(4, 2)
	m.Add(vec.Of(4, []int{0, 2, 3}), []byte{1, 0})
	m.Add(vec.Of(4, []int{2, 3}), []byte{2, 0})
	m.Add(vec.Of(4, []int{0, 1, 2}), []byte{4, 9})
	for i, want := range map[int]struct {
		l    []int
		data []byte
	}{0: {[]int{0}, []byte{3, 0}}, 1: {[]int{1, 3}, []byte{5, 9}}, 2: {[]int{2, 3}, []byte{2, 0}}} {
		v, data, ok := m.Row(i)
		if !ok || !slices.Equal(v.List(), want.l) || !bytes.Equal(data, want.data) {
			t.Errorf("row %d: %v %v %v", i, v.List(), data, ok)
		}
	}
	if v, data, ok := m.Row(3); v != nil || data != nil || ok {
		t.Error("there is no row 3")
	}
}

// P6.1: what says nothing new, or is of another length, is not added, and changes nothing.
func TestAddRefuses(t *testing.T) {
	m := elim.New(10, 3)
	m.Add(vec.Of(10, []int{1, 2}), []byte{1, 2, 3})
	m.Add(vec.Of(10, []int{2, 3}), []byte{4, 5, 6})
	before := m.Bytes()
	for _, v := range []*vec.Vec{nil, vec.New(10), vec.New(0), vec.Of(9, []int{5}), vec.Of(11, []int{5}), vec.Of(10, []int{1, 2}), vec.Of(10, []int{1, 3}), vec.Of(10, []int{2, 3})} {
		if m.Says(v) || m.Add(v, []byte{7, 8, 9}) {
			t.Error("it says nothing")
		}
	}
	fresh := vec.Of(10, []int{5})
	for _, data := range [][]byte{nil, {}, {1}, {1, 2}, {1, 2, 3, 4}, make([]byte, 1000)} {
		if m.Add(fresh, data) {
			t.Errorf("data %v", data)
		}
	}
	if !bytes.Equal(m.Bytes(), before) || m.Rank() != 2 || !m.Says(fresh) || !m.Says(vec.Of(10, []int{1})) {
		t.Error("it has changed")
	}
}

// P6.1, R2: what is handed in is neither changed nor kept.
func TestAddKeepsToItself(t *testing.T) {
	m := elim.New(3, 2)
	m.Add(vec.Of(3, []int{0}), []byte{1, 1})
	v, data := vec.Of(3, []int{0, 1}), []byte{3, 3}
	if !m.Says(v) || !m.Add(v, data) || !slices.Equal(v.List(), []int{0, 1}) || !bytes.Equal(data, []byte{3, 3}) {
		t.Error("what was handed in was changed")
	}
	before := m.Bytes()
	v.Set(2, true)
	data[0] = 99
	w, d, _ := m.Row(1)
	w.Set(2, true)
	d[0] = 88
	if !bytes.Equal(m.Bytes(), before) {
		t.Error("memory is shared")
	}
	m.Add(vec.Of(3, []int{2}), []byte{5, 5})
	before = m.Bytes()
	for _, p := range m.Solve() {
		p[0], p[1] = 77, 77
	}
	if !bytes.Equal(m.Bytes(), before) {
		t.Error("memory of Solve is shared")
	}
}

// P6.1, P6.2: of rows by chance, the rank grows by what says something new, the form holds, and the pieces come out.
func TestSolveTellsThePieces(t *testing.T) {
	r := rand.New(rand.NewSource(6))
	for _, n := range []int{1, 2, 7, 8, 9, 40, 64, 65, 80, 256} {
		size := n%16 + 1
		l, m := pieces(n, size), elim.New(n, size)
		for !m.Full() {
			if len(m.Solve()) != 0 {
				t.Fatalf("%d: solved ahead of the end", n)
			}
			v := chance(r, n)
			says, rank := m.Says(v), m.Rank()
			added := m.Add(v, sum(v, l, size))
			if added != says || m.Rank() != rank+map[bool]int{true: 1}[added] || m.Says(v) {
				t.Fatalf("%d: Says %v, Add %v", n, says, added)
			}
			if n <= 80 {
				if s := reduced(m, n); s != "" {
					t.Fatalf("%d: %s", n, s)
				}
			}
		}
		got := m.Solve()
		if !slices.EqualFunc(got, l, bytes.Equal) || m.Rank() != n {
			t.Errorf("%d: not the pieces", n)
		}
		if m.Says(vec.Of(n, []int{n - 1})) || m.Add(vec.Of(n, []int{0}), l[0]) {
			t.Errorf("%d: a full matrix takes nothing", n)
		}
	}
}

// P6.2: no row where there is none.
func TestRowBeyond(t *testing.T) {
	m := elim.New(5, 1)
	m.Add(vec.Of(5, []int{4}), []byte{1})
	for _, i := range []int{-1, 0, 3, 5, 6, math.MaxInt, math.MinInt} {
		if v, data, ok := m.Row(i); v != nil || data != nil || ok {
			t.Errorf("row %d", i)
		}
	}
	if _, _, ok := m.Row(4); !ok {
		t.Error("row 4")
	}
}

// P6.3: n - 1, size, how many rows in two bytes, then the rows by First.
func TestBytes(t *testing.T) {
	m := elim.New(10, 2)
	if got := m.Bytes(); !bytes.Equal(got, []byte{9, 2, 0, 0}) {
		t.Errorf("%x", got)
	}
	m.Add(vec.Of(10, []int{9}), []byte{0xcc, 0xdd})
	m.Add(vec.Of(10, []int{1, 8}), []byte{0xaa, 0xbb})
	want := []byte{9, 2, 0, 2, 2, 1, 0xaa, 0xbb, 0, 2, 0xcc, 0xdd}
	if got := m.Bytes(); !bytes.Equal(got, want) {
		t.Errorf("%x", got)
	}
	full := elim.New(256, 1)
	for i := range 256 {
		full.Add(vec.Of(256, []int{255 - i}), []byte{byte(i)})
	}
	if got := full.Bytes(); len(got) != 4+256*33 || !bytes.Equal(got[:4], []byte{255, 1, 1, 0}) {
		t.Errorf("%x", got[:4])
	}
}

// P6.3: From tells the matrix back, and it goes on as the other.
func TestFrom(t *testing.T) {
	r := rand.New(rand.NewSource(7))
	for _, n := range []int{1, 2, 8, 9, 20, 256} {
		m := elim.New(n, 4)
		l := pieces(n, 4)
		for range n + 5 {
			b := m.Bytes()
			again, ok := elim.From(b)
			if !ok || !bytes.Equal(again.Bytes(), b) || again.Rank() != m.Rank() || again.Full() != m.Full() {
				t.Fatalf("%d: %x", n, b)
			}
			v := chance(r, n)
			if again.Add(v, sum(v, l, 4)) != m.Add(v, sum(v, l, 4)) || !bytes.Equal(again.Bytes(), m.Bytes()) {
				t.Fatalf("%d: it goes on otherwise", n)
			}
		}
	}
}

// P6.3: bytes that no matrix has are refused.
func TestFromRefuses(t *testing.T) {
	good := []byte{9, 2, 0, 2, 2, 1, 0xaa, 0xbb, 0, 2, 0xcc, 0xdd}
	if _, ok := elim.From(good); !ok {
		t.Fatal("good ones are refused")
	}
	bad := map[string][]byte{
		"nothing":              nil,
		"no rows":              {9, 2, 0},
		"size 0":               {9, 0, 0, 0},
		"size 17":              {9, 17, 0, 0},
		"too few rows":         {9, 2, 0, 3, 2, 1, 0xaa, 0xbb, 0, 2, 0xcc, 0xdd},
		"too many rows":        {9, 2, 0, 1, 2, 1, 0xaa, 0xbb, 0, 2, 0xcc, 0xdd},
		"a count beyond":       {9, 2, 1, 2, 2, 1, 0xaa, 0xbb, 0, 2, 0xcc, 0xdd},
		"a row of no bits":     {9, 2, 0, 1, 0, 0, 0, 0},
		"a bit beyond":         {9, 2, 0, 1, 2, 4, 0xaa, 0xbb},
		"another order":        {9, 2, 0, 2, 0, 2, 0xcc, 0xdd, 2, 1, 0xaa, 0xbb},
		"a row twice":          {9, 2, 0, 2, 2, 1, 0xaa, 0xbb, 2, 1, 0xaa, 0xbb},
		"a First of two rows":  {9, 2, 0, 2, 2, 2, 0xaa, 0xbb, 0, 2, 0xcc, 0xdd},
		"two of one First":     {9, 2, 0, 2, 2, 1, 0xaa, 0xbb, 2, 0, 0xcc, 0xdd},
		"more rows than there": {0, 1, 0, 2, 1, 5, 1, 6},
	}
	for i := range good {
		bad["cut at "+string(rune('a'+i))] = good[:i]
	}
	bad["a byte more"] = append(bytes.Clone(good), 0)
	for name, b := range bad {
		if m, ok := elim.From(b); ok || m != nil {
			t.Errorf("%s: %x", name, b)
		}
	}
}

// P6.4: in whatever order rows are added, they are the same in the end.
func TestOrderMakesNoDifference(t *testing.T) {
	r := rand.New(rand.NewSource(8))
	for _, n := range []int{3, 12, 70} {
		l := pieces(n, 5)
		rows := []*vec.Vec{}
		for range n * 2 / 3 {
			rows = append(rows, chance(r, n))
		}
		want := []byte(nil)
		for range 12 {
			m := elim.New(n, 5)
			for _, v := range rows {
				m.Add(v, sum(v, l, 5))
			}
			if want == nil {
				want = m.Bytes()
			}
			if !bytes.Equal(m.Bytes(), want) {
				t.Fatalf("%d: another end", n)
			}
			r.Shuffle(len(rows), func(i, j int) { rows[i], rows[j] = rows[j], rows[i] })
		}
	}
}

// R3: a nil matrix tells zero values.
func TestNil(t *testing.T) {
	var m *elim.Matrix
	v, data, ok := m.Row(0)
	if m.Add(vec.Of(1, []int{0}), []byte{1}) || m.Says(vec.New(0)) || m.Says(nil) || m.Rank() != 0 || m.Full() || v != nil || data != nil || ok || len(m.Solve()) != 0 || len(m.Bytes()) != 0 {
		t.Error("not zero")
	}
}
