package table_test

import (
	"testing"

	"matron/api"
	"matron/table"
)

// P4.1: which tables may be.

func TestIs(t *testing.T) {
	for _, x := range tables() {
		if !table.Is(x) {
			t.Error(x)
		}
	}
}

func TestIsNot(t *testing.T) {
	for _, x := range notTables() {
		if table.Is(x) {
			t.Error(x)
		}
	}
}

func TestHowManyNodes(t *testing.T) {
	for n := range 300 {
		x := wide(n)
		if table.Is(x) != (n >= 4 && n <= 8) {
			t.Error(n)
		}
	}
}

// Four have Sync at least, whichever they are; what has Info does not matter.
func TestHowManySync(t *testing.T) {
	for n := 4; n <= 8; n++ {
		for syncs := range 1 << n {
			count := 0
			for i := range n {
				count += syncs >> i & 1
			}
			for _, infos := range []int{0, 1, 1<<n - 1, syncs} {
				if table.Is(of(n, syncs, infos)) != (count >= 4) {
					t.Error(n, syncs, infos)
				}
			}
		}
	}
}

func TestEachListen(t *testing.T) {
	for n := 4; n <= 8; n++ {
		for i := range n {
			for listen := -300; listen <= 700; listen++ {
				x := plain(n)
				for k := range x.Nodes {
					x.Nodes[k].Listen = 170 + k
				}
				x.Nodes[i].Listen = listen
				other := listen >= 170 && listen < 170+n && listen != 170+i
				if table.Is(x) != (listen >= 2*n && listen <= 200 && !other) {
					t.Error(n, i, listen)
				}
			}
		}
	}
}

// What was long enough for fewer nodes may be too short for one more.
func TestListenByHowManyNodes(t *testing.T) {
	for least := range 20 {
		for n := 4; n <= 8; n++ {
			x := plain(n)
			for i := range x.Nodes {
				x.Nodes[i].Listen = least + i
			}
			if table.Is(x) != (least >= 2*n) {
				t.Error(n, least)
			}
		}
	}
}

// Of two nodes, whichever they are, neither has the other's Listen, wherever it lies.
func TestListenOfAnother(t *testing.T) {
	for n := 4; n <= 8; n++ {
		for i := range n {
			for k := range n {
				for listen := 3 * n; listen <= 200; listen++ {
					x := plain(n)
					x.Nodes[i].Listen, x.Nodes[k].Listen = listen, listen
					if table.Is(x) != (i == k) {
						t.Error(n, i, k, listen)
					}
				}
			}
		}
	}
}

func TestEachSize(t *testing.T) {
	for n := 4; n <= 8; n++ {
		for i := range n {
			for size := -300; size <= 600; size++ {
				x := plain(n)
				x.Nodes[i].Size = size
				if table.Is(x) != (size >= 1 && size <= 8) {
					t.Error(n, i, size)
				}
			}
		}
	}
}

func TestDriftAndWindow(t *testing.T) {
	x := plain(4)
	x.Limit = 1000
	for x.Drift = -20; x.Drift <= 300; x.Drift++ {
		for x.Window = -100; x.Window <= 1100; x.Window++ {
			if table.Is(x) != (x.Drift >= 0 && x.Window >= 4*x.Drift+2 && x.Window <= 1000) {
				t.Fatal(x)
			}
		}
	}
}

func TestWindowAndLimit(t *testing.T) {
	x := plain(4)
	x.Drift = 3
	for x.Window = 0; x.Window <= 1010; x.Window++ {
		for x.Limit = -10; x.Limit <= 1010; x.Limit++ {
			if table.Is(x) != (x.Window >= 14 && x.Limit >= x.Window && x.Limit <= 1000) {
				t.Fatal(x)
			}
		}
	}
}

// W10: four times a Drift and 2 more does not wrap to what a Window may be.
func TestDriftDoesNotWrap(t *testing.T) {
	for bit := 10; bit < 63; bit++ {
		for _, more := range []int{-250, -249, -1, 0, 1, 249, 250} {
			for _, drift := range []int{1<<bit + more, -1<<bit + more, 3<<(bit-1) + more} {
				for _, window := range []int{2, 500, 1000} {
					x := plain(5)
					x.Drift, x.Window, x.Limit = drift, window, 1000
					if table.Is(x) {
						t.Error(drift, window)
					}
				}
			}
		}
	}
}

// A table without nodes may not be, whatever stands in it besides.
func TestNoNodes(t *testing.T) {
	for _, x := range bounds {
		a := api.Table{Drift: x[0], Window: x[1], Limit: x[2]}
		b := api.Table{Nodes: []api.Def{}, Drift: x[0], Window: x[1], Limit: x[2]}
		if table.Is(a) || table.Is(b) {
			t.Error(x)
		}
	}
}
