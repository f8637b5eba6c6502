package disk

import (
	"maps"
	"slices"

	"hachure/api"
)

// sector is the bytes that a loss of power takes or leaves together, but for the torn one's.
type sector [api.SectorSize]byte

// file is sectors as they were written.
type file struct {
	sectors []sector
	// sure is how many sectors are there whatever the power does; each one behind them is dirty.
	sure int
	// dirty has what is sure of each dirty sector: noughts, of one that was never sure.
	dirty map[int]sector
}

// write lays b's sectors over those from at on, or behind the last.
func (f *file) write(at int, b []byte) {
	for ; len(b) > 0; b = b[api.SectorSize:] {
		if at == len(f.sectors) {
			f.sectors = append(f.sectors, sector{})
		}
		// What is sure of a sector is what it had ahead of the first write since.
		if _, ok := f.dirty[at]; !ok {
			f.dirty[at] = f.sectors[at]
		}
		copy(f.sectors[at][:], b)
		at++
	}
}

// settle makes all sectors sure, as they were written.
func (f *file) settle() {
	f.sure = len(f.sectors)
	f.dirty = map[int]sector{}
}

// cut leaves the first n sectors, surely, be they dirty or not.
func (f *file) cut(n int) {
	f.sectors = f.sectors[:n]
	f.sure = n
	maps.DeleteFunc(f.dirty, func(at int, _ sector) bool { return at >= n })
}

// crash takes from each dirty sector what does not stay, and then all is sure.
func (f *file) crash(stays func() int) {
	end := f.sure
	for _, at := range slices.Sorted(maps.Keys(f.dirty)) {
		n := stays()
		was := f.dirty[at]
		copy(f.sectors[at][n:], was[n:])
		if n > 0 {
			end = max(end, at+1)
		}
	}
	f.sectors = f.sectors[:end]
	f.settle()
}

// copied is f in new memory.
func (f file) copied() file {
	f.sectors = slices.Clone(f.sectors)
	f.dirty = maps.Clone(f.dirty)
	return f
}
