package chunk_test

import (
	"testing"

	"stockade/api"
	"stockade/chunk"
)

// middle is a key with another number in every field.
func middle() api.Key {
	return api.Key{From: 3, To: 5, Src: a4(10<<24 + 1), Dst: a4(11<<24 + 2), Proto: api.TCP, Sport: 1000, Dport: 80}
}

// middle6 is one of family 6.
func middle6() api.Key {
	k := middle()
	k.Src, k.Dst = a6(0x20010db8<<32, 1), a6(0xfe80<<48, 2)
	return k
}

func wantSpot(t testing.TB, k api.Key, dim int, want api.Point, there bool) {
	t.Helper()
	if p, ok := chunk.Spot(k, dim); p != want || ok != there {
		t.Errorf("Spot(%+v, %d): %+v %v, want %+v %v", k, dim, p, ok, want, there)
	}
}

// P11.1: a key's point of each dimension.
func TestSpot(t *testing.T) {
	for _, c := range []struct {
		k    api.Key
		want [7]api.Point
	}{
		{middle(), [7]api.Point{pt(0, 0, 3), pt(0, 0, 5), pt(4, 0, 10<<24+1), pt(4, 0, 11<<24+2), pt(0, 0, 6), pt(0, 0, 1000), pt(0, 0, 80)}},
		{middle6(), [7]api.Point{pt(0, 0, 3), pt(0, 0, 5), pt(6, 0x20010db8<<32, 1), pt(6, 0xfe80<<48, 2), pt(0, 0, 6), pt(0, 0, 1000), pt(0, 0, 80)}},
		{api.Key{Src: a4(0), Dst: a4(most32)}, [7]api.Point{2: pt(4, 0, 0), 3: pt(4, 0, most32)}},
		{api.Key{Src: a6(0, 0), Dst: a6(most, most)}, [7]api.Point{2: pt(6, 0, 0), 3: pt(6, most, most)}},
		{api.Key{From: 15, To: 15, Src: a6(most, 0), Dst: a6(0, most), Proto: 255, Sport: 65535, Dport: 65535},
			[7]api.Point{pt(0, 0, 15), pt(0, 0, 15), pt(6, most, 0), pt(6, 0, most), pt(0, 0, 255), pt(0, 0, 65535), pt(0, 0, 65535)}},
	} {
		for dim, want := range c.want {
			wantSpot(t, c.k, dim, want, true)
		}
		wantSpot(t, c.k, -1, api.Point{}, false)
		wantSpot(t, c.k, 7, api.Point{}, false)
	}
}

// P11.1: a key that may not be has no point, of whatever dimension.
func TestSpotWrong(t *testing.T) {
	for _, good := range []api.Key{middle(), middle6()} {
		for _, bad := range wrongKeys(good) {
			for dim := -1; dim <= 7; dim++ {
				wantSpot(t, bad, dim, api.Point{}, false)
			}
		}
	}
	wantSpot(t, api.Key{}, dimFrom, api.Point{}, false)
}
