package disk

import (
	"maps"
	"slices"

	"archivolt/api"
)

// sector is what a sector has. Once it is on a disk it is replaced, never changed, so that disks can share it.
type sector [api.Sector]byte

// sectorsOf returns bytes as sectors, equal neighbours as one and the same, because most of a disk is often zeros.
func sectorsOf(b []byte) []*sector {
	l := make([]*sector, 0, len(b)/api.Sector)
	for part := range slices.Chunk(b, api.Sector) {
		if n := len(l); n > 0 && *l[n-1] == sector(part) {
			l = append(l, l[n-1])
			continue
		}
		s := sector(part)
		l = append(l, &s)
	}
	return l
}

// medium is the part of a disk that stays when the power fails.
type medium struct {
	sectors []*sector
	bad     map[int]bool
}

func mediumOf(data []byte) medium {
	return medium{sectorsOf(data), map[int]bool{}}
}

func (m *medium) copied() medium {
	return medium{slices.Clone(m.sectors), maps.Clone(m.bad)}
}

func (m *medium) isSector(at int) bool { return m.isRange(at, 1) }

// isRange reports whether there are so many sectors from one on.
func (m *medium) isRange(at, many int) bool {
	// Compared with what is left, because the sum of at and many might be no int.
	return at >= 0 && many >= 0 && at <= len(m.sectors)-many
}

// perform brings a sector to the medium.
func (m *medium) perform(p put) {
	m.sectors[p.at] = p.has
	delete(m.bad, p.at)
}

// data returns the bytes of all sectors.
func (m *medium) data() []byte {
	b := make([]byte, 0, len(m.sectors)*api.Sector)
	for _, s := range m.sectors {
		b = append(b, s[:]...)
	}
	return b
}

// spoiled returns the bad sectors, rising.
func (m *medium) spoiled() []int { return slices.Sorted(maps.Keys(m.bad)) }
