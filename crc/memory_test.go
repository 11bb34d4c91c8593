package crc_test

import (
	"bytes"
	"slices"
	"sync"
	"testing"

	"matron/crc"
)

// W6: what is handed in is neither changed nor kept.

func TestNoByteIsChanged(t *testing.T) {
	whole := some(20)
	for from := range 10 {
		for to := from; to < 15; to++ {
			crc.Sum(to, whole[from:to])
			crc.Sum(-1, whole[:from], whole[from:to], whole[:0])
		}
	}
	if !bytes.Equal(whole, some(20)) {
		t.Error(whole)
	}
}

// The list of rows is handed in, too: neither a row of it nor the room behind its end is changed.
func TestNoListIsChanged(t *testing.T) {
	l := [][]byte{{1}, nil, {}, {2, 3}, {4, 5, 6}, {7}}
	was := slices.Clone(l)
	wantSum(t, rest(0, []byte{1, 2, 3}), 0, l[:4]...)
	wantSum(t, rest(0, []byte{1, 2, 3, 4, 5, 6, 7}), 0, l...)
	for i, row := range l {
		if !bytes.Equal(row, was[i]) || (row == nil) != (was[i] == nil) {
			t.Error(i, row)
		}
	}
}

func TestNothingIsKept(t *testing.T) {
	b := some(6)
	l := [][]byte{b, {9}}
	was := crc.Sum(3, l...)
	for i := range b {
		b[i] ^= 0xff
	}
	wantSum(t, rest(3, append(slices.Clone(b), 9)), 3, l...)
	l[0], l[1] = nil, nil
	wantSum(t, 3, 3, l...)
	wantSum(t, 0, 0)
	wantSum(t, was, 3, some(6), []byte{9})
}

// W2: a call hangs on its arguments alone, not on the calls ahead of it nor on those beside it.
func TestNothingHangsOnOtherCalls(t *testing.T) {
	var all sync.WaitGroup
	for g := range 8 {
		all.Go(func() {
			for n := range 50 {
				if s := crc.Sum(g*n, some(n)); s != rest(g*n, some(n)) {
					t.Errorf("%d %d: %x", g, n, s)
				}
			}
		})
	}
	all.Wait()
}
