package table_test

import (
	"encoding/hex"
	"math"
	"math/bits"
	"strings"
	"testing"

	"matron/api"
	"matron/table"
)

// of is a table of that many nodes: bit i of syncs and of infos is node i's.
func of(n, syncs, infos int) api.Table {
	t := api.Table{Drift: 3, Window: 0x0102, Limit: 0x0203}
	for i := range n {
		t.Nodes = append(t.Nodes, api.Def{Sync: syncs>>i&1 == 1, Info: infos>>i&1 == 1, Listen: 2*n + (i*11+3)%n, Size: 1 + (i*3+n)%api.MaxData})
	}
	return t
}

// plain is a table of that many nodes that all have Sync, and none Info.
func plain(n int) api.Table { return of(n, 1<<n-1, 0) }

// tables are tables that may be: of each number of nodes, with each choice of Sync and many of Info, and with each number at its bounds.
func tables() []api.Table {
	var l []api.Table
	for n := 4; n <= 8; n++ {
		for syncs := range 1 << n {
			if bits.OnesCount(uint(syncs)) < 4 {
				continue
			}
			for _, infos := range []int{0, 1<<n - 1, syncs, syncs ^ (1<<n - 1), 0x55 & (1<<n - 1)} {
				l = append(l, of(n, syncs, infos))
			}
		}
		l = append(l, atBounds(n)...)
	}
	return l
}

func atBounds(n int) []api.Table {
	var l []api.Table
	for i := range n {
		for _, d := range []api.Def{{Listen: 2*n + n, Size: 1}, {Listen: 200, Size: 8}, {Listen: 199, Size: 1}, {Listen: 128, Size: 4}} {
			t := plain(n)
			d.Sync = true
			t.Nodes[i] = d
			l = append(l, t)
		}
	}
	for _, x := range bounds {
		t := plain(n)
		t.Drift, t.Window, t.Limit = x[0], x[1], x[2]
		l = append(l, t)
	}
	return l
}

// bounds are Drift, Window and Limit, as they may be, to their bounds.
var bounds = [][3]int{
	{0, 2, 2}, {0, 2, 3}, {0, 2, 1000}, {0, 3, 3}, {0, 1000, 1000}, {0, 999, 1000}, {0, 255, 256}, {0, 256, 256},
	{1, 6, 6}, {1, 7, 7}, {2, 10, 10}, {7, 30, 31}, {7, 31, 31}, {63, 254, 255}, {64, 258, 258},
	{248, 994, 994}, {248, 994, 1000}, {249, 998, 998}, {249, 998, 1000}, {249, 999, 999}, {249, 1000, 1000},
}

// far are numbers that nothing in a table may be.
var far = []int{-1, -2, -1000, 1001, 1002, 65536, 65536 + 10, 1 << 31, 1 << 32, 1<<32 + 10, -1<<32 + 10, 1 << 61, 1 << 62, -1 << 61, -1 << 62, math.MaxInt, math.MaxInt - 1, math.MinInt, math.MinInt + 1}

// notTables are tables that may not be, each for one thing alone, but the last ones.
func notTables() []api.Table {
	var l []api.Table
	add := func(n int, change func(t *api.Table)) {
		t := plain(n)
		change(&t)
		l = append(l, t)
	}
	for n := 4; n <= 8; n++ {
		for i := range n {
			for _, x := range append([]int{0, 1, 2*n - 1, 2*n - 2, n, 201, 256 + 2*n, 1000}, far...) {
				add(n, func(t *api.Table) { t.Nodes[i].Listen = x })
			}
			for k := range n {
				if k != i {
					add(n, func(t *api.Table) { t.Nodes[i].Listen = t.Nodes[k].Listen })
				}
			}
			for _, x := range append([]int{0, 9, 10, 256, 257, 264, 1000}, far...) {
				add(n, func(t *api.Table) { t.Nodes[i].Size = x })
			}
		}
		for syncs := range 1 << n {
			if bits.OnesCount(uint(syncs)) < 4 {
				l = append(l, of(n, syncs, 0), of(n, syncs, 1<<n-1))
			}
		}
		for _, x := range notBounds() {
			add(n, func(t *api.Table) { t.Drift, t.Window, t.Limit = x[0], x[1], x[2] })
		}
	}
	for _, n := range []int{0, 1, 2, 3, 9, 10, 90, 256 + 4, 256 + 8, 70000} {
		l = append(l, wide(n))
	}
	return append(l, api.Table{}, api.Table{Nodes: []api.Def{}}, api.Table{Nodes: []api.Def{{}}, Drift: -1, Window: -1, Limit: -1})
}

// wide is a table of that many nodes, of which the Listens are as they may be as long as there are enough.
func wide(n int) api.Table {
	t := api.Table{Window: 2, Limit: 2}
	for i := range n {
		t.Nodes = append(t.Nodes, api.Def{Sync: true, Listen: min(2*n, 100) + i, Size: 1})
	}
	return t
}

func notBounds() [][3]int {
	l := [][3]int{
		{0, 0, 0}, {0, 1, 1}, {0, 0, 2}, {0, 1, 1000}, {0, 2, 1}, {0, 2, 0}, {0, 3, 2}, {0, 1000, 999}, {0, 1001, 1001}, {0, 1001, 1000}, {0, 2, 1001}, {0, 1000, 1001},
		{1, 5, 5}, {1, 4, 1000}, {1, 2, 2}, {2, 9, 9}, {2, 9, 1000}, {7, 29, 1000}, {7, 30, 29}, {248, 993, 1000}, {249, 997, 1000}, {249, 998, 997}, {249, 1000, 999},
		{250, 1000, 1000}, {250, 1002, 1002}, {251, 1000, 1000}, {999, 1000, 1000}, {1000, 1000, 1000}, {1000, 4002, 4002},
	}
	for _, x := range far {
		l = append(l, [3]int{x, 1000, 1000}, [3]int{x, 2, 2}, [3]int{0, x, 1000}, [3]int{0, x, x}, [3]int{0, 2, x}, [3]int{x, x, x})
	}
	return append(l, [3]int{-250, -998, -998}, [3]int{-1, 2, 2}, [3]int{-1, -2, 1000})
}

// whole is a table's bytes, by the chapter's words.
func whole(t api.Table) []byte {
	b := []byte{0x4d, 0x54, 0x52, 0x4e, byte(len(t.Nodes))}
	for _, d := range t.Nodes {
		one := byte(0)
		if d.Sync {
			one += 1
		}
		if d.Info {
			one += 2
		}
		b = append(b, one, byte(d.Listen/256), byte(d.Listen%256), byte(d.Size))
	}
	return append(b, byte(t.Drift/256), byte(t.Drift%256), byte(t.Window/256), byte(t.Window%256), byte(t.Limit/256), byte(t.Limit%256))
}

// spelt is bytes of two hexadecimal digits each.
func spelt(s string) []byte {
	b, err := hex.DecodeString(strings.ReplaceAll(s, " ", ""))
	if err != nil {
		panic(err)
	}
	return b
}

// same is asked by the tests instead of package table's own Same.
func same(a, b api.Table) bool {
	if len(a.Nodes) != len(b.Nodes) || a.Drift != b.Drift || a.Window != b.Window || a.Limit != b.Limit {
		return false
	}
	for i, d := range a.Nodes {
		if d != b.Nodes[i] {
			return false
		}
	}
	return true
}

func wantUnpack(t *testing.T, b []byte, want api.Table) {
	t.Helper()
	if x, e := table.Unpack(b); e != api.OK || !same(x, want) {
		t.Errorf("Unpack(%x): got %v, %v, want %v", b, x, e, want)
	}
}

// wantErr: with the error the table is its zero value.
func wantErr(t *testing.T, b []byte) {
	t.Helper()
	if x, e := table.Unpack(b); e != api.ErrForm || !same(x, api.Table{}) {
		t.Errorf("Unpack(%x): got %v, %v", b, x, e)
	}
}
