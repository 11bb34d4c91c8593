package table_test

import (
	"bytes"
	"testing"

	"matron/api"
	"matron/table"
)

// P4.2: tables as bytes.

func TestPack(t *testing.T) {
	for _, x := range []struct {
		t    api.Table
		want string
	}{
		{
			api.Table{Nodes: []api.Def{{Sync: true, Listen: 8, Size: 1}, {Sync: true, Info: true, Listen: 9, Size: 2}, {Sync: true, Listen: 200, Size: 8}, {Sync: true, Info: true, Listen: 10, Size: 7}}, Window: 2, Limit: 2},
			"4d 54 52 4e 04 01 00 08 01 03 00 09 02 01 00 c8 08 03 00 0a 07 00 00 00 02 00 02",
		},
		{
			api.Table{Nodes: []api.Def{{Info: true, Listen: 10, Size: 1}, {Sync: true, Listen: 11, Size: 2}, {Sync: true, Listen: 12, Size: 3}, {Sync: true, Listen: 13, Size: 4}, {Sync: true, Listen: 14, Size: 5}}, Drift: 249, Window: 998, Limit: 1000},
			"4d 54 52 4e 05 02 00 0a 01 01 00 0b 02 01 00 0c 03 01 00 0d 04 01 00 0e 05 00 f9 03 e6 03 e8",
		},
		{
			api.Table{Nodes: []api.Def{{Listen: 23, Size: 8}, {Sync: true, Listen: 22, Size: 7}, {Info: true, Listen: 21, Size: 6}, {Sync: true, Info: true, Listen: 20, Size: 5}, {Listen: 19, Size: 4}, {Sync: true, Listen: 18, Size: 3}, {Info: true, Listen: 17, Size: 2}, {Sync: true, Listen: 16, Size: 1}}, Drift: 64, Window: 258, Limit: 772},
			"4d 54 52 4e 08 00 00 17 08 01 00 16 07 02 00 15 06 03 00 14 05 00 00 13 04 01 00 12 03 02 00 11 02 01 00 10 01 00 40 01 02 03 04",
		},
	} {
		if b, e := table.Pack(x.t); e != api.OK || !bytes.Equal(b, spelt(x.want)) {
			t.Errorf("Pack(%v): got %x, %v", x.t, b, e)
		}
		wantUnpack(t, spelt(x.want), x.t)
	}
}

func TestPackOfEachKind(t *testing.T) {
	for _, x := range tables() {
		if b, e := table.Pack(x); e != api.OK || !bytes.Equal(b, whole(x)) {
			t.Errorf("Pack(%v): got %x, %v", x, b, e)
		}
	}
}

// The example of the chapter, and how long the others are.
func TestPackLength(t *testing.T) {
	for n, want := range map[int]int{4: 27, 5: 31, 6: 35, 7: 39, 8: 43} {
		if b, _ := table.Pack(plain(n)); len(b) != want {
			t.Error(n, len(b))
		}
	}
}

func TestPackErrs(t *testing.T) {
	for _, x := range notTables() {
		if b, e := table.Pack(x); e != api.ErrArg || len(b) != 0 {
			t.Error(x, b, e)
		}
	}
}

// P4.3: Unpack of Pack, and Pack of Unpack.

func TestUnpackOfPack(t *testing.T) {
	for _, x := range tables() {
		b, e := table.Pack(x)
		if e != api.OK {
			t.Fatal(x, e)
		}
		wantUnpack(t, b, x)
	}
}

func TestPackOfUnpack(t *testing.T) {
	for _, x := range tables() {
		y, e := table.Unpack(whole(x))
		if e != api.OK {
			t.Fatal(x, e)
		}
		if b, e := table.Pack(y); e != api.OK || !bytes.Equal(b, whole(x)) {
			t.Errorf("%v: got %x, %v", x, b, e)
		}
	}
}
