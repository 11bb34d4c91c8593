package table_test

import (
	"bytes"
	"testing"

	"matron/api"
	"matron/table"
)

// P4.2: bytes as tables.

func TestUnpack(t *testing.T) {
	for _, x := range tables() {
		wantUnpack(t, whole(x), x)
	}
}

// P4.2: ErrForm.

func TestCutShort(t *testing.T) {
	for _, x := range tables() {
		b := whole(x)
		for n := range b {
			wantErr(t, b[:n])
			wantErr(t, b[len(b)-n:])
			wantErr(t, bytes.Clone(b[:n]))
		}
	}
}

func TestMoreBehind(t *testing.T) {
	for _, x := range tables() {
		for _, n := range []int{1, 2, 3, 4, 6, 8, 27, 256, 65536} {
			wantErr(t, append(whole(x), make([]byte, n)...))
			wantErr(t, append(make([]byte, n), whole(x)...))
		}
		wantErr(t, append(whole(x), whole(x)...))
	}
}

func TestAnotherBeginning(t *testing.T) {
	for n := 4; n <= 8; n++ {
		for at := range 4 {
			b := whole(plain(n))
			was := b[at]
			for i := range 256 {
				b[at] = byte(i)
				if b[at] != was {
					wantErr(t, b)
				}
			}
		}
	}
	for _, s := range []string{"mtrn", "MTRM", "NTRM", "MTR\x00", "    ", "\x00\x00\x00\x00"} {
		b := whole(plain(4))
		copy(b, s)
		wantErr(t, b)
	}
	wantErr(t, whole(plain(4))[4:])
}

// Whatever number of nodes is told, and however many stand there: of those that are not alike, or too few or too many, no table is told.
func TestAnotherNumberOfNodes(t *testing.T) {
	for n := range 256 {
		x := wide(n)
		for told := range 256 {
			b := whole(x)
			b[4] = byte(told)
			if told == n && n >= 4 && n <= 8 {
				wantUnpack(t, b, x)
			} else {
				wantErr(t, b)
			}
		}
	}
	for _, n := range []int{256, 256 + 4, 256 + 8, 512 + 5} {
		wantErr(t, whole(wide(n)))
	}
}

// A node's first byte is 0 to 3: of more bits none is let go by.
func TestBitsThatPackNeverWrites(t *testing.T) {
	for n := 5; n <= 8; n++ {
		for i := range n {
			x := plain(n)
			for bits := range 256 {
				b := whole(x)
				b[5+4*i] = byte(bits)
				if bits > 3 {
					wantErr(t, b)
					continue
				}
				x.Nodes[i].Sync, x.Nodes[i].Info = bits == 1 || bits == 3, bits >= 2
				wantUnpack(t, b, x)
			}
		}
	}
}

// Bytes in the right form, of a table that may not be.
func TestATableThatMayNotBe(t *testing.T) {
	for _, x := range notTables() {
		if !spells(x) {
			continue
		}
		wantErr(t, whole(x))
	}
}

// spells tells whether whole cuts none of a table's numbers.
func spells(x api.Table) bool {
	small := func(n, bound int) bool { return n >= 0 && n < bound }
	for _, d := range x.Nodes {
		if !small(d.Listen, 65536) || !small(d.Size, 256) {
			return false
		}
	}
	return small(len(x.Nodes), 256) && small(x.Drift, 65536) && small(x.Window, 65536) && small(x.Limit, 65536)
}

// told is what bytes of n nodes say by their places, the test's own way.
func told(b []byte, n int) api.Table {
	two := func(at int) int { return int(b[at])*256 + int(b[at+1]) }
	end := 5 + 4*n
	x := api.Table{Drift: two(end), Window: two(end + 2), Limit: two(end + 4)}
	for i := range n {
		at := 5 + 4*i
		x.Nodes = append(x.Nodes, api.Def{Sync: b[at]%2 == 1, Info: b[at]/2%2 == 1, Listen: two(at + 1), Size: int(b[at+3])})
	}
	return x
}

// Whatever byte is put anywhere: a table is told just where that is one that may be, and these are its bytes.
func TestEachByteAtEachPlace(t *testing.T) {
	for n := 4; n <= 8; n++ {
		for _, x := range []api.Table{plain(n), of(n, 0xf<<(n-4), 0x5a), of(n, 0xf, 0xff)} {
			b := whole(x)
			for at := range b {
				was := b[at]
				for i := range 256 {
					b[at] = byte(i)
					y := told(b, n)
					if table.Is(y) && bytes.Equal(whole(y), b) {
						wantUnpack(t, b, y)
					} else {
						wantErr(t, b)
					}
				}
				b[at] = was
			}
		}
	}
}

// Each Drift, Window and Limit that two bytes can tell.
func TestEachPairOfBytes(t *testing.T) {
	for place := range 3 {
		x := plain(6)
		x.Drift, x.Window, x.Limit = 100, 500, 800
		b := whole(x)
		for n := range 1 << 16 {
			at := len(b) - 6 + 2*place
			b[at], b[at+1] = byte(n/256), byte(n%256)
			*[]*int{&x.Drift, &x.Window, &x.Limit}[place] = n
			if [3]bool{n <= 124, n >= 402 && n <= 800, n >= 500 && n <= 1000}[place] {
				wantUnpack(t, b, x)
			} else {
				wantErr(t, b)
			}
		}
	}
}

func TestAnyBytes(t *testing.T) {
	wantErr(t, nil)
	wantErr(t, []byte{})
	for i := range 256 {
		for _, n := range []int{1, 2, 4, 5, 6, 10, 11, 26, 27, 28, 31, 43, 47, 1031, 1032, 100000} {
			b := bytes.Repeat([]byte{byte(i)}, n)
			wantErr(t, b)
			copy(b, "MTRN")
			wantErr(t, b)
		}
	}
}

func FuzzUnpack(f *testing.F) {
	for n := 4; n <= 8; n++ {
		f.Add(whole(plain(n)))
	}
	f.Fuzz(func(t *testing.T, b []byte) {
		x, e := table.Unpack(b)
		if e == api.OK && (!table.Is(x) || !bytes.Equal(whole(x), b)) || e != api.OK && (e != api.ErrForm || !same(x, api.Table{})) {
			t.Errorf("Unpack(%x): got %v, %v", b, x, e)
		}
	})
}
