package frame_test

import (
	"bytes"
	"testing"

	"matron/api"
	"matron/frame"
)

// P3.2: bytes as frames.

func TestDecode(t *testing.T) {
	own := api.CState{Round: 0x1234, Slot: 5, Members: 0xa7}
	most := api.CState{Round: api.MaxRound, Slot: 7, Members: 255}
	for _, x := range []struct {
		b    string
		want api.Frame
	}{
		{"01 00 29 bc", api.Frame{Kind: api.Normal, State: own}},
		{"01 01 07 7e bb", api.Frame{Kind: api.Normal, State: own, Data: []byte{7}}},
		{"01 08 ff ff ff ff ff ff ff ff 15 c3", api.Frame{Kind: api.Normal, State: own, Data: spelt("ff ff ff ff ff ff ff ff")}},
		{"02 00 00 00 00 00 3c 58", api.Frame{Kind: api.Info}},
		{"02 12 34 05 a7 01 07 3b a5", api.Frame{Kind: api.Info, State: own, Data: []byte{7}}},
		{"02 ff ff 07 ff 02 09 08 6e a1", api.Frame{Kind: api.Info, State: most, Data: []byte{9, 8}}},
		{"03 00 00 00 00 00 22 74", api.Frame{Kind: api.Cold}},
		{"03 ff ff 07 ff 08 01 02 03 04 05 06 07 08 2b 94", api.Frame{Kind: api.Cold, State: most, Data: []byte{1, 2, 3, 4, 5, 6, 7, 8}}},
	} {
		wantDecode(t, spelt(x.b), own, x.want)
	}
}

// Who tells its state is read by whatever state may be.
func TestDecodeOfAToldState(t *testing.T) {
	for _, f := range frames() {
		for _, own := range good {
			if f.Kind != api.Normal {
				wantDecode(t, whole(f), own, f)
			}
		}
	}
}

// The state of a Normal frame is the reader's own.
func TestDecodeByOwn(t *testing.T) {
	for _, own := range good {
		for n := range api.MaxData + 1 {
			f := api.Frame{Kind: api.Normal, State: own, Data: some(n)}
			wantDecode(t, whole(f), own, f)
			for _, other := range good {
				if other != own {
					wantErr(t, whole(f), other, api.ErrSum)
				}
			}
		}
	}
}

// The sum of a frame that tells its state begins with 0, that of a Normal one does not.
func TestDecodeOfTheOthersSeed(t *testing.T) {
	for _, f := range frames() {
		seed := seedOf(f.State)
		if seed == 0 {
			continue
		}
		if f.Kind == api.Normal {
			seed = 0
		}
		wantErr(t, sealed(seed, plain(f)...), f.State, api.ErrSum)
	}
}

// A seed of 0 does not tell that a state may not be: this one may.
func TestDecodeByASeedOfNought(t *testing.T) {
	own := api.CState{Round: api.MaxRound - 1}
	if n := frame.Seed(own); n != 0 {
		t.Fatalf("%x", n)
	}
	wantDecode(t, sealed(0, 1, 1, 7), own, api.Frame{Kind: api.Normal, State: own, Data: []byte{7}})
	wantEncode(t, api.Frame{Kind: api.Normal, State: own, Data: []byte{7}}, sealed(0, 1, 1, 7))
}

// P3.2: ErrForm.

func TestCutShort(t *testing.T) {
	for _, f := range frames() {
		b := whole(f)
		for n := range b {
			wantErr(t, b[:n], f.State, api.ErrForm)
			wantErr(t, bytes.Clone(b[:n]), f.State, api.ErrForm)
		}
	}
}

// What fits its sum is not read either, if it was cut ahead of that, or more was put in.
func TestAnotherLengthThanSaid(t *testing.T) {
	for _, f := range frames() {
		for n := 1; n <= api.MaxData; n++ {
			wantErr(t, sealed(start(f), append(plain(f), some(n)...)...), f.State, api.ErrForm)
			wantErr(t, append(whole(f), some(n)...), f.State, api.ErrForm)
			if n <= len(f.Data) {
				b := plain(f)
				wantErr(t, sealed(start(f), b[:len(b)-n]...), f.State, api.ErrForm)
			}
		}
		wantErr(t, append(whole(f), make([]byte, 256)...), f.State, api.ErrForm)
		wantErr(t, append(whole(f), whole(f)...), f.State, api.ErrForm)
	}
}

func TestNoBytes(t *testing.T) {
	wantErr(t, nil, api.CState{}, api.ErrForm)
	wantErr(t, []byte{}, api.CState{}, api.ErrForm)
	for i := range 256 {
		wantErr(t, []byte{byte(i)}, api.CState{}, api.ErrForm)
		for k := range 256 {
			wantErr(t, []byte{byte(i), byte(k)}, api.CState{}, api.ErrForm)
			wantErr(t, []byte{byte(i), byte(k), 0}, api.CState{}, api.ErrForm)
		}
	}
}

func TestAnotherKind(t *testing.T) {
	s := api.CState{Round: 0x0201, Slot: 3, Members: 4}
	for i := range 256 {
		if i >= api.Normal && i <= api.Cold {
			continue
		}
		for _, seed := range []int{0, seedOf(s)} {
			wantErr(t, sealed(seed, byte(i), 0), s, api.ErrForm)
			wantErr(t, sealed(seed, byte(i), 2, 5, 6), s, api.ErrForm)
			wantErr(t, sealed(seed, byte(i), 2, 1, 3, 4, 0), s, api.ErrForm)
			wantErr(t, sealed(seed, byte(i), 2, 1, 3, 4, 1, 9), s, api.ErrForm)
		}
	}
}

func TestMoreDataThanMayBe(t *testing.T) {
	for _, kind := range kinds {
		for n := api.MaxData + 1; n < 256; n++ {
			f := api.Frame{Kind: kind, State: good[len(good)-2], Data: some(n)}
			wantErr(t, whole(f), f.State, api.ErrForm)
		}
		f := api.Frame{Kind: kind, Data: make([]byte, 256)} // of which the byte that tells how many says 0
		wantErr(t, whole(f), f.State, api.ErrForm)
	}
}

func TestAStateThatMayNotBe(t *testing.T) {
	for _, kind := range []int{api.Info, api.Cold} {
		for slot := range 256 {
			f := api.Frame{Kind: kind, State: api.CState{Round: 0xfffe, Slot: slot, Members: 0x81}, Data: some(2)}
			if slot < api.MaxNodes {
				wantDecode(t, whole(f), api.CState{}, f)
			} else {
				wantErr(t, whole(f), api.CState{}, api.ErrForm)
			}
		}
	}
}

// An own state that may not be is none to read by, though a frame tells its own.
func TestAnOwnStateThatMayNotBe(t *testing.T) {
	for _, own := range bad {
		for _, f := range frames() {
			wantErr(t, whole(f), own, api.ErrForm)
		}
		wantErr(t, sealed(0, 1, 0), own, api.ErrForm) // Seed says 0 of such a state
		wantErr(t, sealed(0, 1, 1, 7), own, api.ErrForm)
		wantErr(t, nil, own, api.ErrForm)
	}
}

// P3.2: ErrSum.

func TestASumThatDoesNotFit(t *testing.T) {
	for _, f := range frames() {
		b := whole(f)
		for bit := range 16 {
			b[len(b)-2+bit/8] ^= 0x80 >> (bit % 8)
			wantErr(t, b, f.State, api.ErrSum)
			b[len(b)-2+bit/8] ^= 0x80 >> (bit % 8)
		}
		wantDecode(t, b, f.State, f)
	}
}

// Of all that could stand as the sum just one fits.
func TestEachSum(t *testing.T) {
	own := api.CState{Round: 0x1234, Slot: 5, Members: 0xa7}
	for _, f := range []api.Frame{{Kind: api.Normal, State: own, Data: []byte{7}}, {Kind: api.Info, State: own, Data: []byte{7}}, {Kind: api.Cold, State: own}} {
		b := whole(f)
		hi, lo := b[len(b)-2], b[len(b)-1]
		for n := range 1 << 16 {
			b[len(b)-2], b[len(b)-1] = byte(n>>8), byte(n)
			if b[len(b)-2] == hi && b[len(b)-1] == lo {
				wantDecode(t, b, own, f)
			} else if g, e := frame.Decode(b, own); e != api.ErrSum || !same(g, api.Frame{}) {
				t.Fatalf("%x: %v %v", b, g, e)
			}
		}
	}
}

// P3.2: ErrForm is told ahead of ErrSum.
func TestTheOrderOfErrs(t *testing.T) {
	own := api.CState{Round: 3, Slot: 2, Members: 1}
	for _, s := range []string{
		"00 00 00 00", "04 00 00 00", // another kind
		"01 01 00 00", "01 00 00 00 00", "02 00 00 00 00 01 00 00", "03 00 00 00 00 00 00 00 00", // another length
		"01 09 01 02 03 04 05 06 07 08 09 00 00", "02 00 00 00 00 09 01 02 03 04 05 06 07 08 09 00 00", // too much
		"02 00 00 08 00 00 00 00", "03 00 00 ff 00 01 07 00 00", // no state
	} {
		wantErr(t, spelt(s), own, api.ErrForm)
	}
	for _, s := range []string{"01 00 00 00", "01 01 07 00 00", "02 00 00 00 00 00 00 00", "03 00 00 07 00 01 07 00 00"} {
		wantErr(t, spelt(s), own, api.ErrSum)
		for _, not := range bad {
			wantErr(t, spelt(s), not, api.ErrForm)
		}
	}
}

// told is what the chapter's words say of bytes, by going through all that could have been encoded to as many.
func told(b []byte, own api.CState) (api.Frame, api.Errno) {
	for _, kind := range kinds {
		for n := range api.MaxData + 1 {
			f := api.Frame{Kind: kind, State: own}
			head := 2
			if kind != api.Normal {
				head = 6
			}
			if len(b) != head+n+2 {
				continue
			}
			if kind != api.Normal {
				f.State = api.CState{Round: int(b[1])*256 + int(b[2]), Slot: int(b[3]), Members: int(b[4])}
			}
			f.Data = b[head : head+n]
			if f.State.Slot >= api.MaxNodes || !bytes.Equal(plain(f), b[:head+n]) {
				continue
			}
			if bytes.Equal(whole(f), b) {
				return f, api.OK
			}
			return api.Frame{}, api.ErrSum
		}
	}
	return api.Frame{}, api.ErrForm
}

// Whatever byte is put anywhere: of none of these a frame is told, but of the one that was there.
func TestEachByteAtEachPlace(t *testing.T) {
	own := api.CState{Round: 0x0102, Slot: 3, Members: 8}
	for _, kind := range kinds {
		for n := range api.MaxData + 1 {
			f := api.Frame{Kind: kind, State: own, Data: some(n)}
			b := whole(f)
			for at := range b {
				was := b[at]
				for i := range 256 {
					b[at] = byte(i)
					want, e := told(b, own)
					if e == api.OK && b[at] != was {
						t.Fatalf("two of one sum: %x", b)
					}
					if e == api.OK {
						wantDecode(t, b, own, want)
					} else {
						wantErr(t, b, own, e)
					}
				}
				b[at] = was
			}
		}
	}
}

func TestAnyBytes(t *testing.T) {
	own := api.CState{Round: 9, Slot: 1, Members: 3}
	for n := range 40 {
		for first := range 6 {
			for count := range 20 {
				b := some(n)
				for i, x := range []byte{byte(first), byte(count), 0, byte(count % 9), 7, byte(count)} {
					if i < n {
						b[i] = x
					}
				}
				for _, c := range [][]byte{b, sealed(0, b...), sealed(seedOf(own), b...)} {
					if want, e := told(c, own); e == api.OK {
						wantDecode(t, c, own, want)
					} else {
						wantErr(t, c, own, e)
					}
				}
			}
		}
	}
}

func TestManyBytes(t *testing.T) {
	for i := range 5 {
		b := make([]byte, 100000)
		b[0] = byte(i)
		wantErr(t, b, api.CState{}, api.ErrForm)
		wantErr(t, sealed(0, b...), api.CState{}, api.ErrForm)
	}
}
