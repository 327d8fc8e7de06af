package sums_test

import (
	"bytes"
	"testing"

	"archivolt/api"
	"archivolt/sums"
)

func TestP2_3Permute(t *testing.T) {
	for _, c := range []struct{ s, want [8]uint32 }{
		{[8]uint32{1, 2, 3, 4, 5, 6, 7, 8}, [8]uint32{0x7293533a, 0xbd5c75ad, 0xc0d9402d, 0x42602301, 0x11785aad, 0xb2f17f58, 0xdd66750f, 0x280829d4}},
		{[8]uint32{}, [8]uint32{0x49f777f2, 0xd12e85aa, 0x11b701a0, 0xfcd5c014, 0x90d3b3e1, 0xaa9c997f, 0x550f4fe9, 0xdf405ef0}},
	} {
		if got := sums.Permute(c.s); got != c.want {
			t.Errorf("%x: %x", c.s, got)
		}
		if got := sums.Undo(c.want); got != c.s {
			t.Errorf("%x: %x", c.want, got)
		}
	}
}

func TestP2_7Bijection(t *testing.T) {
	r := chance()
	for range 1000 {
		s := anyWords(r)
		if sums.Undo(sums.Permute(s)) != s || sums.Permute(sums.Undo(s)) != s {
			t.Fatal(s)
		}
	}
}

func sameSponge(a, b api.Sponge) bool { return a.State == b.State && bytes.Equal(a.Rest, b.Rest) }

func TestP2_3Start(t *testing.T) {
	if s := sums.Start(); s.State != [8]uint32{7: 0x61726368} || len(s.Rest) > 0 {
		t.Error(s)
	}
}

func TestP2_3Absorb(t *testing.T) {
	state := [8]uint32{1, 2, 3, 4, 5, 6, 7, 8}
	block := []byte{1, 0, 0, 0, 0, 2, 0, 0, 0, 0, 3, 0, 0, 0, 0, 4}
	after := sums.Permute([8]uint32{1 ^ 1, 2 ^ 2<<8, 3 ^ 3<<16, 4 ^ 4<<24, 5, 6, 7, 8})
	for _, c := range []struct {
		s    api.Sponge
		b    []byte
		want api.Sponge
	}{
		{api.Sponge{State: state}, nil, api.Sponge{State: state}},
		{api.Sponge{State: state, Rest: block[:3]}, nil, api.Sponge{State: state, Rest: block[:3]}},
		{api.Sponge{State: state, Rest: block[:3]}, block[3:15], api.Sponge{State: state, Rest: block[:15]}},
		{api.Sponge{State: state, Rest: block[:15]}, block[15:], api.Sponge{State: after}},
		{api.Sponge{State: state}, block, api.Sponge{State: after}},
		{api.Sponge{State: state, Rest: block[:1]}, join(block[1:], block[:5]), api.Sponge{State: after, Rest: block[:5]}},
	} {
		if s, e := sums.Absorb(c.s, c.b); !sameSponge(s, c.want) || e != api.OK {
			t.Error(c, s, e)
		}
	}
}

func TestP2_3InvalidSponges(t *testing.T) {
	for _, many := range []int{16, 17, 32} {
		bad := api.Sponge{State: sums.Start().State, Rest: make([]byte, many)}
		if s, e := sums.Absorb(bad, []byte{1}); !sameSponge(s, api.Sponge{}) || e != api.ErrArg {
			t.Error(many, s, e)
		}
		if d, e := sums.End(bad); d != (api.Digest{}) || e != api.ErrArg {
			t.Error(many, d, e)
		}
	}
}

func TestP2_3Digest(t *testing.T) {
	for _, c := range []struct{ text, digits string }{
		{"", "c2957194fed4be9dc5f65763321486ea"},
		{"a", "e4d23f761a671a40ce40ffd3805e5839"},
		{"123456789", "bde5cc0a2ba1ee437dd3b11dc70437d5"},
		{"0123456789abcde", "cb3fbeb714faacb07e430816109aaf28"},
		{"0123456789abcdef", "98b8247bc6645bf107d7a1a08d6c68bc"},
		{"0123456789abcdefg", "a9622b81d5c7029a1448450ae2cf39fd"},
		{string(allBytes()), "5ee213e19f96b9aae14dd5598b4b15f4"},
	} {
		if d := sums.Digest([]byte(c.text)); d != digest(c.digits) {
			t.Errorf("%q: %x", c.text, d)
		}
	}
	if sums.Digest(nil) != sums.Digest([]byte{}) {
		t.Error("no bytes")
	}
}

func TestP2_3End(t *testing.T) {
	if d, e := sums.End(sums.Start()); d != sums.Digest(nil) || e != api.OK {
		t.Error(d, e)
	}
	// A sponge need not come from Start.
	last := join([]byte("abc"), []byte{128}, make([]byte, 12))
	whole, _ := sums.Absorb(api.Sponge{State: [8]uint32{4: 9}}, last)
	var want api.Digest
	for i := range want {
		want[i] = byte(whole.State[i/4] >> (i % 4 * 8))
	}
	if d, e := sums.End(api.Sponge{State: [8]uint32{4: 9}, Rest: []byte("abc")}); d != want || e != api.OK {
		t.Error(d, e)
	}
}

func TestP2_8Streams(t *testing.T) {
	r := chance()
	for range 300 {
		b := anyBytes(r, 100)
		whole, e := sums.Absorb(sums.Start(), b)
		if e != api.OK || len(whole.Rest) != len(b)%16 {
			t.Fatal(b, whole, e)
		}
		s := sums.Start()
		for rest := b; len(rest) > 0; {
			n := min(len(rest), r.Intn(40))
			if s, e = sums.Absorb(s, rest[:n]); e != api.OK {
				t.Fatal(b, e)
			}
			rest = rest[n:]
		}
		d, e := sums.End(s)
		if !sameSponge(s, whole) || d != sums.Digest(b) || e != api.OK {
			t.Fatal(b, s, whole, d, e)
		}
	}
}
