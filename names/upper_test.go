package names_test

import (
	"strings"
	"testing"

	"archivolt/api"
	"archivolt/names"
)

func TestP5_2Up(t *testing.T) {
	for u, want := range map[uint16]uint16{
		97: 65, 255: 376, 312: 312, 329: 329, 962: 931, 1119: 1039,
		96: 96, 122: 90, 123: 123, 223: 223, 224: 192, 246: 214, 247: 247, 248: 216, 254: 222, 256: 256, 257: 256, 258: 258, 305: 304, 311: 310, 313: 313, 314: 313, 315: 315, 328: 327,
		330: 330, 331: 330, 375: 374, 376: 376, 377: 377, 378: 378, 944: 944, 945: 913, 961: 929, 963: 931, 969: 937, 970: 970, 1071: 1071, 1072: 1040, 1103: 1071, 1104: 1024, 1120: 1120, 1121: 1120, 1153: 1152, 1155: 1155,
		0: 0, 55296: 55296, 57343: 57343, 65535: 65535, 65345: 65345,
	} {
		if got := names.Up(u); got != want {
			t.Error(u, got)
		}
	}
	for u := range 65536 {
		if got := names.Up(uint16(u)); int(got) != plainUp(u) {
			t.Error(u, got)
		}
	}
}

func TestP5_2Upper(t *testing.T) {
	for _, c := range []struct{ s, want string }{
		{"", ""}, {"aéß", "AÉß"}, {"Straße", "STRAßE"}, {"ÿ", "Ÿ"}, {"ς σ", "Σ Σ"}, {"ёж", "ЁЖ"}, {"ŉ ĸ", "ŉ ĸ"}, {"a/b\x00", "A/B\x00"}, {smiling + "z", smiling + "Z"},
		{low + "y" + high, low + "Y" + high}, {"𐐨", "𐐨"}, {strings.Repeat("ö", api.MaxUnits), strings.Repeat("Ö", api.MaxUnits)},
	} {
		if got, e := names.Upper(c.s); got != c.want || e != api.OK {
			t.Errorf("%q: %q, %d", c.s, got, e)
		}
	}
	for _, s := range notWell() {
		if got, e := names.Upper(s); got != "" || e != api.ErrForm {
			t.Errorf("%q: %q, %d", s, got, e)
		}
	}
}
