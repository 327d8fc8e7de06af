package names

import "archivolt/api"

// row says of the units from one to another one, or of every second of them, how much less their upper cases are.
type row struct{ from, to, every, less int }

// rows has all units with an upper case that is another one, rising.
var rows = [13]row{
	{97, 122, 1, 32}, {224, 246, 1, 32}, {248, 254, 1, 32}, {255, 255, 1, -121},
	{257, 311, 2, 1}, {314, 328, 2, 1}, {331, 375, 2, 1},
	{945, 961, 1, 32}, {962, 962, 1, 31}, {963, 969, 1, 32},
	{1072, 1103, 1, 32}, {1104, 1119, 1, 80}, {1121, 1153, 2, 1},
}

// Up returns the upper case of a unit.
func Up(u uint16) uint16 {
	n := int(u)
	for _, r := range rows {
		if n < r.from {
			break
		}
		if n <= r.to && (n-r.from)%r.every == 0 {
			return uint16(n - r.less)
		}
	}
	return u
}

// ups returns the upper cases of units.
func ups(l []uint16) []uint16 {
	all := make([]uint16, len(l))
	for i, u := range l {
		all[i] = Up(u)
	}
	return all
}

// Upper returns the upper case of a string.
func Upper(s string) (string, api.Errno) {
	return call(func() string { return encoded(ups(decoded(s))) })
}
