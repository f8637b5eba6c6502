package disk_test

import (
	"bytes"
	"math"
	"slices"
	"testing"

	"hachure/api"
	"hachure/disk"
)

const size = api.SectorSize

// sectors are so many, each filled with the next of these bytes.
func sectors(fill ...byte) []byte {
	var out []byte
	for _, c := range fill {
		out = append(out, bytes.Repeat([]byte{c}, size)...)
	}
	return out
}

// torn is a sector whose first n bytes are a, and the others b.
func torn(n int, a, b byte) []byte {
	return append(bytes.Repeat([]byte{a}, n), bytes.Repeat([]byte{b}, size-n)...)
}

func wantErr(t *testing.T, what string, got, want api.Errno) {
	t.Helper()
	if got != want {
		t.Errorf("%s: %s, want %s", what, got, want)
	}
}

func must(t *testing.T, e api.Errno) {
	t.Helper()
	if e != api.OK {
		t.Fatalf("an error: %s", e)
	}
}

// wantFile holds a whole file, and how many of its sectors are dirty, against what is wanted. The power is on.
func wantFile(t *testing.T, d *disk.Disk, file int, want []byte, dirty int) {
	t.Helper()
	if got := d.Sectors(file); got != len(want)/size {
		t.Fatalf("file %d has %d sectors, want %d", file, got, len(want)/size)
	}
	got, e := d.Read(file, 0, len(want)/size)
	if e != api.OK || !bytes.Equal(got, want) {
		t.Errorf("file %d: %s, %v, want %v", file, e, short(got), short(want))
	}
	if got := d.Dirty(file); got != dirty {
		t.Errorf("file %d has %d dirty sectors, want %d", file, got, dirty)
	}
}

// short is the first, middle and last byte of each sector.
func short(b []byte) [][3]byte {
	var out [][3]byte
	for ; len(b) >= size; b = b[size:] {
		out = append(out, [3]byte{b[0], b[size/2], b[size-1]})
	}
	return out
}

// crashed loses the power and gets it back.
func crashed(t *testing.T, d *disk.Disk, c disk.Crash) {
	t.Helper()
	if !d.Crash(c) {
		t.Fatal("no crash")
	}
	must(t, d.Start())
}

func TestNewRooms(t *testing.T) {
	for _, room := range []int{math.MinInt, -1, 0, api.MaxSectors + 1, math.MaxInt} {
		if disk.New(room) != nil {
			t.Errorf("a disk for %d sectors", room)
		}
	}
	for _, room := range []int{1, 2, 100, api.MaxSectors - 1, api.MaxSectors} {
		d := disk.New(room)
		if d == nil {
			t.Fatalf("no disk for %d sectors", room)
		}
		if !d.On() || d.Ops() != 0 || d.Room() != room {
			t.Errorf("a new disk for %d: %v, %d operations, room %d", room, d.On(), d.Ops(), d.Room())
		}
		wantFile(t, d, disk.Data, nil, 0)
		wantFile(t, d, disk.Journal, nil, 0)
	}
	if disk.Data != 0 || disk.Journal != 1 {
		t.Error("the files are called otherwise")
	}
}

func TestWriteAtTheEndAndOver(t *testing.T) {
	d := disk.New(8)
	must(t, d.Write(0, 0, sectors(1, 2)))
	wantFile(t, d, 0, sectors(1, 2), 2)
	must(t, d.Write(0, 2, sectors(3)))
	wantFile(t, d, 0, sectors(1, 2, 3), 3)
	must(t, d.Sync(0))
	wantFile(t, d, 0, sectors(1, 2, 3), 0)
	must(t, d.Write(0, 1, sectors(4)))
	wantFile(t, d, 0, sectors(1, 4, 3), 1)
	must(t, d.Write(0, 2, sectors(5, 6)))
	wantFile(t, d, 0, sectors(1, 4, 5, 6), 3)
	must(t, d.Write(0, 2, sectors(7)))
	wantFile(t, d, 0, sectors(1, 4, 7, 6), 3)
	wantFile(t, d, 1, nil, 0)
	must(t, d.Write(1, 0, sectors(9)))
	wantFile(t, d, 1, sectors(9), 1)
	wantFile(t, d, 0, sectors(1, 4, 7, 6), 3)
	must(t, d.Sync(1))
	wantFile(t, d, 1, sectors(9), 0)
	wantFile(t, d, 0, sectors(1, 4, 7, 6), 3)
	if d.Ops() != 8 {
		t.Errorf("%d operations, want 8", d.Ops())
	}
}

func TestWriteOfTheSameBytesIsDirty(t *testing.T) {
	d := disk.New(2)
	must(t, d.Write(0, 0, sectors(1)))
	must(t, d.Sync(0))
	must(t, d.Write(0, 0, sectors(1)))
	wantFile(t, d, 0, sectors(1), 1)
}

func TestAFullDisk(t *testing.T) {
	d := disk.New(1)
	wantErr(t, "two sectors", d.Write(0, 0, sectors(1, 2)), api.ErrFull)
	wantFile(t, d, 0, nil, 0)
	must(t, d.Write(0, 0, sectors(3)))
	wantErr(t, "a sector more", d.Write(0, 1, sectors(4)), api.ErrFull)
	wantErr(t, "a sector of the journal", d.Write(1, 0, sectors(4)), api.ErrFull)
	wantErr(t, "one over, one more", d.Write(0, 0, sectors(4, 5)), api.ErrFull)
	wantFile(t, d, 0, sectors(3), 1)
	wantFile(t, d, 1, nil, 0)
	must(t, d.Write(0, 0, sectors(5)))
	wantFile(t, d, 0, sectors(5), 1)
	if d.Ops() != 6 {
		t.Errorf("%d operations, want 6: a full disk's count too", d.Ops())
	}
	must(t, d.Cut(0, 0))
	must(t, d.Write(1, 0, sectors(6)))
	wantFile(t, d, 1, sectors(6), 1)
}

func TestRoomIsOfBothFiles(t *testing.T) {
	d := disk.New(5)
	must(t, d.Write(0, 0, sectors(1, 2)))
	wantErr(t, "four more", d.Write(1, 0, sectors(1, 2, 3, 4)), api.ErrFull)
	must(t, d.Write(1, 0, sectors(1, 2, 3)))
	wantErr(t, "one more", d.Write(0, 1, sectors(1, 2)), api.ErrFull)
	must(t, d.Cut(1, 2))
	must(t, d.Write(0, 1, sectors(8, 9)))
	wantFile(t, d, 0, sectors(1, 8, 9), 3)
	wantFile(t, d, 1, sectors(1, 2), 2)
}

func TestTheGreatestDisk(t *testing.T) {
	d := disk.New(api.MaxSectors)
	many := bytes.Repeat([]byte{7}, (api.MaxSectors-1)*size)
	must(t, d.Write(0, 0, many))
	wantErr(t, "two more", d.Write(1, 0, sectors(1, 2)), api.ErrFull)
	must(t, d.Write(1, 0, sectors(1)))
	wantErr(t, "one more", d.Write(0, api.MaxSectors-1, sectors(1)), api.ErrFull)
	wantFile(t, d, 0, many, api.MaxSectors-1)
	wantFile(t, d, 1, sectors(1), 1)
	crashed(t, d, disk.Crash{Keep: []bool{true}})
	wantFile(t, d, 0, many, 0)
	wantFile(t, d, 1, sectors(1), 0)
}

func TestWrongWrites(t *testing.T) {
	d := disk.New(4)
	must(t, d.Write(0, 0, sectors(1, 2)))
	for _, file := range []int{math.MinInt, -1, 2, 3, math.MaxInt} {
		wantErr(t, "another file", d.Write(file, 0, sectors(1)), api.ErrRange)
		wantErr(t, "another file, no bytes", d.Write(file, 0, nil), api.ErrRange)
	}
	for _, at := range []int{math.MinInt, -1, 3, 4, math.MaxInt} {
		wantErr(t, "a place beyond", d.Write(0, at, sectors(1)), api.ErrRange)
		wantErr(t, "a place beyond, too few bytes", d.Write(0, at, []byte{1}), api.ErrRange)
	}
	wantErr(t, "a place beyond the journal", d.Write(1, 1, sectors(1)), api.ErrRange)
	for _, n := range []int{0, 1, size - 1, size + 1, 2*size - 1, 100*size + 1} {
		wantErr(t, "no whole sectors", d.Write(0, 0, make([]byte, n)), api.ErrArg)
		wantErr(t, "no whole sectors, at the end", d.Write(0, 2, make([]byte, n)), api.ErrArg)
	}
	wantErr(t, "nil", d.Write(0, 0, nil), api.ErrArg)
	wantFile(t, d, 0, sectors(1, 2), 2)
	if d.Ops() != 1 {
		t.Errorf("%d operations, want 1: what is refused is none", d.Ops())
	}
}

func TestWrongSyncsAndCuts(t *testing.T) {
	d := disk.New(4)
	must(t, d.Write(0, 0, sectors(1, 2)))
	for _, file := range []int{math.MinInt, -1, 2, math.MaxInt} {
		wantErr(t, "Sync of another file", d.Sync(file), api.ErrRange)
		wantErr(t, "Cut of another file", d.Cut(file, 0), api.ErrRange)
		if d.Sectors(file) != 0 || d.Dirty(file) != 0 {
			t.Errorf("file %d has something", file)
		}
	}
	for _, n := range []int{math.MinInt, -1, 3, math.MaxInt} {
		wantErr(t, "Cut beyond", d.Cut(0, n), api.ErrRange)
	}
	wantErr(t, "Cut of the empty journal", d.Cut(1, 1), api.ErrRange)
	wantFile(t, d, 0, sectors(1, 2), 2)
	if d.Ops() != 1 {
		t.Errorf("%d operations, want 1", d.Ops())
	}
}

func TestCut(t *testing.T) {
	d := disk.New(8)
	must(t, d.Write(0, 0, sectors(1, 2, 3)))
	must(t, d.Sync(0))
	must(t, d.Write(0, 1, sectors(4, 5, 6)))
	must(t, d.Cut(0, 2))
	wantFile(t, d, 0, sectors(1, 4), 1)
	if d.Ops() != 4 {
		t.Errorf("%d operations, want 4", d.Ops())
	}
	crashed(t, d, disk.Crash{})
	wantFile(t, d, 0, sectors(1, 2), 0)
	must(t, d.Cut(0, 0))
	wantFile(t, d, 0, nil, 0)
	must(t, d.Cut(0, 0))
	wantFile(t, d, 0, nil, 0)
}

func TestCutToTheSameNumberIsSure(t *testing.T) {
	d := disk.New(8)
	must(t, d.Write(0, 0, sectors(1)))
	must(t, d.Sync(0))
	must(t, d.Write(0, 0, sectors(2, 3, 4)))
	must(t, d.Cut(0, 3))
	wantFile(t, d, 0, sectors(2, 3, 4), 3)
	crashed(t, d, disk.Crash{})
	wantFile(t, d, 0, sectors(1, 0, 0), 0)
}

func TestCutOverSectorsThatWereNeverSure(t *testing.T) {
	d := disk.New(8)
	must(t, d.Write(0, 0, sectors(1, 2, 3, 4)))
	must(t, d.Cut(0, 2))
	wantFile(t, d, 0, sectors(1, 2), 2)
	e := d.Copy()
	crashed(t, d, disk.Crash{Torn: 3})
	wantFile(t, d, 0, append(torn(3, 1, 0), sectors(0)...), 0)
	must(t, e.Write(0, 2, sectors(5, 6)))
	wantFile(t, e, 0, sectors(1, 2, 5, 6), 4)
	crashed(t, e, disk.Crash{Keep: []bool{true, false}})
	wantFile(t, e, 0, sectors(1, 0, 5), 0)
}

func TestWhatWasCutIsNoMore(t *testing.T) {
	d := disk.New(8)
	must(t, d.Write(0, 0, sectors(1, 2, 3)))
	must(t, d.Sync(0))
	must(t, d.Cut(0, 1))
	must(t, d.Write(0, 1, sectors(4, 5)))
	wantFile(t, d, 0, sectors(1, 4, 5), 2)
	crashed(t, d, disk.Crash{Keep: []bool{false, true}})
	wantFile(t, d, 0, sectors(1, 0, 5), 0)
	must(t, d.Write(0, 1, sectors(6)))
	must(t, d.Cut(0, 1))
	must(t, d.Write(0, 1, sectors(7)))
	crashed(t, d, disk.Crash{})
	wantFile(t, d, 0, sectors(1), 0)
}

func TestRead(t *testing.T) {
	d := disk.New(8)
	must(t, d.Write(0, 0, sectors(1, 2, 3)))
	for at := 0; at <= 3; at++ {
		for n := 0; at+n <= 3; n++ {
			b, e := d.Read(0, at, n)
			if want := sectors(1, 2, 3)[at*size : (at+n)*size]; e != api.OK || !bytes.Equal(b, want) {
				t.Errorf("Read of %d from %d: %s, %v, want %v", n, at, e, short(b), short(want))
			}
		}
	}
	for _, c := range [][3]int{
		{0, -1, 1}, {0, math.MinInt, 0}, {0, 0, -1}, {0, 3, -1}, {0, 0, math.MinInt},
		{0, 0, 4}, {0, 3, 1}, {0, 4, 0}, {0, 4, -1}, {0, math.MaxInt, 0}, {0, math.MaxInt, math.MaxInt}, {0, 1, math.MaxInt},
		{0, 2, math.MaxInt - 1}, {1, 0, 1}, {1, 1, 0}, {2, 0, 0}, {-1, 0, 0}, {math.MinInt, 0, 1}, {math.MaxInt, 0, 1},
	} {
		if b, e := d.Read(c[0], c[1], c[2]); e != api.ErrRange || len(b) != 0 {
			t.Errorf("Read of %v: %s, %d bytes", c, e, len(b))
		}
	}
	if b, e := d.Read(1, 0, 0); e != api.OK || len(b) != 0 {
		t.Errorf("Read of nothing of an empty file: %s, %d bytes", e, len(b))
	}
	if d.Ops() != 1 {
		t.Errorf("%d operations, want 1: a Read is none", d.Ops())
	}
}

func TestTheExample(t *testing.T) {
	d := disk.New(4)
	must(t, d.Write(0, 0, sectors(1, 2)))
	crashed(t, d, disk.Crash{Keep: []bool{true, false}, Torn: 5})
	wantFile(t, d, 0, append(sectors(1), torn(5, 2, 0)...), 0)
}

// changed is a disk with two sure sectors in each file, the second one of each written over, and one more written behind.
func changed(t *testing.T) *disk.Disk {
	t.Helper()
	d := disk.New(100)
	for file, low := range []byte{10, 20} {
		must(t, d.Write(file, 0, sectors(low+1, low+2)))
		must(t, d.Sync(file))
	}
	// The last sector is written ahead of the others: they are told rising, not as they were written.
	for _, file := range []int{1, 0} {
		low := byte(10 + 10*file)
		must(t, d.Write(file, 2, sectors(low+5)))
		must(t, d.Write(file, 1, sectors(low+4)))
	}
	return d
}

func TestCrash(t *testing.T) {
	yes, no := true, false
	for _, c := range []struct {
		crash disk.Crash
		data  []byte
		log   []byte
	}{
		{disk.Crash{}, sectors(11, 12), sectors(21, 22)},
		{disk.Crash{Keep: []bool{}}, sectors(11, 12), sectors(21, 22)},
		{disk.Crash{Keep: []bool{no}}, sectors(11, 12), sectors(21, 22)},
		{disk.Crash{Keep: []bool{yes}}, sectors(11, 14, 15), sectors(21, 24, 25)},
		{disk.Crash{Keep: []bool{yes}, Torn: 7}, sectors(11, 14, 15), sectors(21, 24, 25)},
		{disk.Crash{Keep: []bool{yes, no}}, sectors(11, 14), sectors(21, 24)},
		{disk.Crash{Keep: []bool{no, yes}}, sectors(11, 12, 15), sectors(21, 22, 25)},
		{disk.Crash{Keep: []bool{no, yes, yes}}, sectors(11, 12, 15), sectors(21, 24)},
		{disk.Crash{Keep: []bool{no, no, yes, no}}, sectors(11, 12), sectors(21, 24)},
		{disk.Crash{Keep: []bool{no, no, no, yes}}, sectors(11, 12), sectors(21, 22, 25)},
		{disk.Crash{Keep: []bool{yes, no, no, no, yes, yes}}, sectors(11, 14), sectors(21, 22)},
		{disk.Crash{Keep: []bool{no, no, no, no, yes}}, sectors(11, 12), sectors(21, 22)},
		{disk.Crash{Torn: 1}, append(sectors(11), torn(1, 14, 12)...), sectors(21, 22)},
		{disk.Crash{Torn: size - 1}, append(sectors(11), torn(size-1, 14, 12)...), sectors(21, 22)},
		{disk.Crash{Torn: size}, sectors(11, 14), sectors(21, 22)},
		{disk.Crash{Torn: size + 1}, sectors(11, 14), sectors(21, 22)},
		{disk.Crash{Torn: math.MaxInt}, sectors(11, 14), sectors(21, 22)},
		{disk.Crash{Torn: -1}, sectors(11, 12), sectors(21, 22)},
		{disk.Crash{Torn: math.MinInt}, sectors(11, 12), sectors(21, 22)},
		{disk.Crash{Keep: []bool{yes, no}, Torn: 1}, append(sectors(11, 14), torn(1, 15, 0)...), sectors(21, 24)},
		{disk.Crash{Keep: []bool{yes, no}, Torn: 0}, sectors(11, 14), sectors(21, 24)},
		{disk.Crash{Keep: []bool{yes, no}, Torn: -5}, sectors(11, 14), sectors(21, 24)},
		{disk.Crash{Keep: []bool{yes, no}, Torn: 1000}, sectors(11, 14, 15), sectors(21, 24)},
		{disk.Crash{Keep: []bool{yes, yes, no, no}, Torn: 3}, sectors(11, 14, 15), append(sectors(21), torn(3, 24, 22)...)},
		{disk.Crash{Keep: []bool{yes, yes, yes, no}, Torn: 3}, sectors(11, 14, 15), append(sectors(21, 24), torn(3, 25, 0)...)},
	} {
		d := changed(t)
		ops := d.Ops()
		if !d.Crash(c.crash) || d.On() || d.Ops() != ops || d.Room() != 100 {
			t.Fatalf("Crash of %v: on %v, %d operations", c.crash, d.On(), d.Ops())
		}
		if d.Dirty(0) != 0 || d.Dirty(1) != 0 || d.Sectors(0) != len(c.data)/size || d.Sectors(1) != len(c.log)/size {
			t.Errorf("behind %v, without power: %d, %d sectors, %d, %d dirty", c.crash, d.Sectors(0), d.Sectors(1), d.Dirty(0), d.Dirty(1))
		}
		must(t, d.Start())
		wantFile(t, d, 0, c.data, 0)
		wantFile(t, d, 1, c.log, 0)
		crashed(t, d, disk.Crash{Keep: []bool{no}, Torn: 9})
		wantFile(t, d, 0, c.data, 0)
		wantFile(t, d, 1, c.log, 0)
	}
}

func TestATornSectorFarBehindTheEnd(t *testing.T) {
	d := disk.New(20)
	must(t, d.Write(0, 0, sectors(1)))
	must(t, d.Sync(0))
	must(t, d.Write(0, 1, sectors(2, 3, 4, 5)))
	e := d.Copy()
	crashed(t, d, disk.Crash{Keep: []bool{true, true, false, false}, Torn: 2})
	wantFile(t, d, 0, slices.Concat(sectors(1, 2, 3), torn(2, 4, 0)), 0)
	crashed(t, e, disk.Crash{Keep: []bool{false, false, false, true}, Torn: 2})
	wantFile(t, e, 0, slices.Concat(sectors(1), torn(2, 2, 0), sectors(0, 0, 5)), 0)
}

func TestWhatIsSureIsOfTheLastSync(t *testing.T) {
	d := disk.New(4)
	must(t, d.Write(0, 0, sectors(1)))
	must(t, d.Write(0, 0, sectors(2)))
	must(t, d.Sync(0))
	must(t, d.Write(0, 0, sectors(3)))
	must(t, d.Write(0, 0, sectors(4)))
	crashed(t, d, disk.Crash{Torn: 64})
	wantFile(t, d, 0, torn(64, 4, 2), 0)
}

func TestSyncIsOfOneFile(t *testing.T) {
	d := changed(t)
	must(t, d.Sync(1))
	crashed(t, d, disk.Crash{})
	wantFile(t, d, 0, sectors(11, 12), 0)
	wantFile(t, d, 1, sectors(21, 24, 25), 0)
}

func TestWithoutPower(t *testing.T) {
	d := changed(t)
	ops := d.Ops()
	if !d.Crash(disk.Crash{Keep: []bool{true}}) || d.On() {
		t.Fatal("there is power behind a crash")
	}
	if d.Crash(disk.Crash{}) {
		t.Error("a crash without power")
	}
	wantErr(t, "Write", d.Write(0, 0, sectors(1)), api.ErrPower)
	wantErr(t, "Write to another file", d.Write(2, 0, nil), api.ErrPower)
	wantErr(t, "Write beyond", d.Write(0, -1, nil), api.ErrPower)
	wantErr(t, "Sync", d.Sync(0), api.ErrPower)
	wantErr(t, "Sync of another file", d.Sync(-1), api.ErrPower)
	wantErr(t, "Cut", d.Cut(0, 0), api.ErrPower)
	wantErr(t, "Cut of another file", d.Cut(7, -1), api.ErrPower)
	for _, c := range [][3]int{{0, 0, 1}, {0, 0, 0}, {5, 0, 0}, {0, -1, -1}} {
		if b, e := d.Read(c[0], c[1], c[2]); e != api.ErrPower || len(b) != 0 {
			t.Errorf("Read of %v: %s, %d bytes", c, e, len(b))
		}
	}
	wantErr(t, "Arm", d.Arm(1, disk.Crash{}), api.OK)
	wantErr(t, "Arm below 0", d.Arm(-1, disk.Crash{}), api.ErrArg)
	if d.On() || d.Ops() != ops || d.Sectors(0) != 3 || d.Sectors(1) != 3 || d.Dirty(0) != 0 {
		t.Error("something changed without power")
	}
	wantErr(t, "Start", d.Start(), api.OK)
	if !d.On() {
		t.Error("no power behind Start")
	}
	wantFile(t, d, 0, sectors(11, 14, 15), 0)
	wantFile(t, d, 1, sectors(21, 24, 25), 0)
	wantErr(t, "an operation that was armed ahead of Start", d.Sync(0), api.OK)
}

func TestErrorsInTheirOrder(t *testing.T) {
	d := disk.New(2)
	must(t, d.Write(0, 0, sectors(1, 2)))
	wantErr(t, "file, place and bytes", d.Write(2, -1, []byte{1}), api.ErrRange)
	wantErr(t, "place and bytes", d.Write(0, 3, []byte{1}), api.ErrRange)
	wantErr(t, "place and room", d.Write(0, 3, sectors(1)), api.ErrRange)
	wantErr(t, "bytes and room", d.Write(0, 2, append(sectors(1), 1)), api.ErrArg)
	wantErr(t, "room", d.Write(0, 2, sectors(1)), api.ErrFull)
	wantErr(t, "Arm", d.Arm(-1, disk.Crash{Torn: -1}), api.ErrArg)
	var none *disk.Disk
	wantErr(t, "no disk, and all else", none.Write(2, -1, nil), api.ErrMade)
	wantErr(t, "no disk, and an Arm below 0", none.Arm(-1, disk.Crash{}), api.ErrMade)
}

// operations are one of each kind, on a disk that changed makes.
func operations() map[string]func(d *disk.Disk) api.Errno {
	return map[string]func(d *disk.Disk) api.Errno{
		"Write":        func(d *disk.Disk) api.Errno { return d.Write(0, 0, sectors(99)) },
		"Write behind": func(d *disk.Disk) api.Errno { return d.Write(1, 3, sectors(99, 98)) },
		"Write, full":  func(d *disk.Disk) api.Errno { return d.Write(0, 3, make([]byte, 100*size)) },
		"Sync":         func(d *disk.Disk) api.Errno { return d.Sync(0) },
		"Sync of 1":    func(d *disk.Disk) api.Errno { return d.Sync(1) },
		"Cut":          func(d *disk.Disk) api.Errno { return d.Cut(0, 1) },
		"Cut of 1":     func(d *disk.Disk) api.Errno { return d.Cut(1, 0) },
		"Cut of none":  func(d *disk.Disk) api.Errno { return d.Cut(0, 3) },
	}
}

func TestArmedOperations(t *testing.T) {
	c := disk.Crash{Keep: []bool{true, false, false, true}, Torn: 2}
	for what, do := range operations() {
		d, e := changed(t), changed(t)
		ops := d.Ops()
		must(t, d.Arm(1, c))
		wantErr(t, "armed "+what, do(d), api.ErrPower)
		if d.On() || d.Ops() != ops+1 {
			t.Errorf("behind an armed %s: on %v, %d operations, want %d", what, d.On(), d.Ops(), ops+1)
		}
		wantErr(t, what+" again", do(d), api.ErrPower)
		if d.Ops() != ops+1 {
			t.Errorf("%s without power is counted", what)
		}
		must(t, d.Start())
		e.Crash(c)
		must(t, e.Start())
		for file := range 2 {
			want, _ := e.Read(file, 0, e.Sectors(file))
			wantFile(t, d, file, want, 0)
		}
		must(t, d.Sync(0))
		if d.Ops() != ops+2 || !d.On() {
			t.Errorf("behind %s something is armed yet", what)
		}
	}
}

func TestArmCountsOperationsAlone(t *testing.T) {
	for n := 1; n <= 6; n++ {
		d := disk.New(3)
		must(t, d.Arm(n, disk.Crash{Keep: []bool{true}}))
		steps := []func() api.Errno{
			func() api.Errno { return d.Write(0, 0, sectors(1)) },
			func() api.Errno { return d.Write(1, 0, sectors(1, 2, 3)) },
			func() api.Errno { return d.Sync(1) },
			func() api.Errno { return d.Cut(0, 0) },
			func() api.Errno { return d.Write(0, 0, sectors(2)) },
		}
		want := []api.Errno{api.OK, api.ErrFull, api.OK, api.OK, api.OK}
		for i, step := range steps {
			d.Write(0, 0, nil)
			d.Write(0, 9, sectors(1))
			d.Sync(2)
			d.Cut(0, 8)
			d.Read(0, 0, 0)
			d.Sectors(0)
			d.Copy().Sync(0)
			expect := want[i]
			if i+1 >= n {
				expect = api.ErrPower
			}
			wantErr(t, "a step", step(), expect)
			if d.On() != (i+1 < n) || d.Ops() != min(i+1, n) {
				t.Errorf("armed %d, behind %d steps: on %v, %d operations", n, i+1, d.On(), d.Ops())
			}
		}
	}
}

func TestArmAgain(t *testing.T) {
	d := disk.New(4)
	must(t, d.Arm(1, disk.Crash{}))
	must(t, d.Arm(0, disk.Crash{Keep: []bool{true}, Torn: 5}))
	wantErr(t, "behind Arm of 0", d.Write(0, 0, sectors(1)), api.OK)
	must(t, d.Arm(1, disk.Crash{}))
	must(t, d.Arm(2, disk.Crash{Keep: []bool{true}}))
	wantErr(t, "Arm below 0", d.Arm(-1, disk.Crash{}), api.ErrArg)
	wantErr(t, "Arm far below 0", d.Arm(math.MinInt, disk.Crash{}), api.ErrArg)
	wantErr(t, "the first of two", d.Write(0, 0, sectors(2)), api.OK)
	wantErr(t, "the second of two", d.Write(0, 0, sectors(3)), api.ErrPower)
	must(t, d.Start())
	wantFile(t, d, 0, sectors(2), 0)
	must(t, d.Arm(1, disk.Crash{}))
	must(t, d.Start())
	wantErr(t, "behind Start with power", d.Sync(0), api.OK)
	must(t, d.Arm(1, disk.Crash{}))
	crashed(t, d, disk.Crash{})
	wantErr(t, "behind a Crash", d.Sync(0), api.OK)
	must(t, d.Arm(math.MaxInt, disk.Crash{}))
	for range 100 {
		wantErr(t, "far ahead of what is armed", d.Sync(0), api.OK)
	}
}

func TestCopiesGoTheirOwnWay(t *testing.T) {
	d := changed(t)
	must(t, d.Arm(3, disk.Crash{Keep: []bool{true}}))
	c := d.Copy()
	if c == d || c.Ops() != d.Ops() || c.Room() != d.Room() || !c.On() {
		t.Fatal("a copy is not alike")
	}
	wantFile(t, c, 0, sectors(11, 14, 15), 2)
	wantFile(t, c, 1, sectors(21, 24, 25), 2)
	must(t, d.Write(0, 0, sectors(77, 78)))
	must(t, d.Cut(1, 0))
	wantFile(t, c, 0, sectors(11, 14, 15), 2)
	wantFile(t, c, 1, sectors(21, 24, 25), 2)
	must(t, c.Write(1, 3, sectors(66)))
	must(t, c.Sync(1))
	wantFile(t, d, 0, sectors(77, 78, 15), 3)
	wantFile(t, d, 1, nil, 0)
	wantErr(t, "the third operation of the copy", c.Sync(0), api.ErrPower)
	if !d.On() || c.On() || c.Copy().On() {
		t.Error("the power of one is the other's, or a copy has another")
	}
	wantErr(t, "the third operation", d.Sync(0), api.ErrPower)
	must(t, c.Start())
	wantFile(t, c, 0, sectors(11, 14, 15), 0)
	wantFile(t, c, 1, sectors(21, 24, 25, 66), 0)
	must(t, d.Start())
	wantFile(t, d, 0, sectors(77, 78, 15), 0)
}

func TestCopiesKnowWhatWasSure(t *testing.T) {
	d := changed(t)
	c := d.Copy()
	must(t, d.Sync(0))
	must(t, d.Sync(1))
	crashed(t, c, disk.Crash{})
	wantFile(t, c, 0, sectors(11, 12), 0)
	wantFile(t, c, 1, sectors(21, 22), 0)
	crashed(t, d, disk.Crash{})
	wantFile(t, d, 0, sectors(11, 14, 15), 0)
}

func TestADiskThatNoCallMade(t *testing.T) {
	for _, d := range []*disk.Disk{nil, new(disk.Disk), disk.New(0)} {
		for range 2 {
			wantErr(t, "Write", d.Write(0, 0, sectors(1)), api.ErrMade)
			wantErr(t, "Sync", d.Sync(0), api.ErrMade)
			wantErr(t, "Cut", d.Cut(0, 0), api.ErrMade)
			b, e := d.Read(0, 0, 0)
			wantErr(t, "Read", e, api.ErrMade)
			wantErr(t, "Arm", d.Arm(0, disk.Crash{}), api.ErrMade)
			if len(b) != 0 || d.Sectors(0) != 0 || d.Dirty(1) != 0 || d.Crash(disk.Crash{Keep: []bool{true}}) || d.On() || d.Ops() != 0 || d.Room() != 0 || d.Copy() != nil {
				t.Error("a disk that no call made has something")
			}
			wantErr(t, "Start", d.Start(), api.ErrMade)
		}
	}
}

func TestMemory(t *testing.T) {
	d := disk.New(8)
	given := append(sectors(1, 2), 3, 4)
	must(t, d.Write(0, 0, given[:2*size]))
	if !bytes.Equal(given, append(sectors(1, 2), 3, 4)) {
		t.Error("Write changed its argument")
	}
	clear(given)
	wantFile(t, d, 0, sectors(1, 2), 2)
	got, _ := d.Read(0, 0, 2)
	other, _ := d.Read(0, 0, 2)
	clear(got[:cap(got)])
	if !bytes.Equal(other, sectors(1, 2)) {
		t.Error("two Reads share memory")
	}
	wantFile(t, d, 0, sectors(1, 2), 2)
	part, _ := d.Read(0, 0, 1)
	part = append(part, sectors(9)...)
	wantFile(t, d, 0, sectors(1, 2), 2)

	keep := []bool{true, false, true}
	must(t, d.Arm(1, disk.Crash{Keep: keep[:2]}))
	keep[0], keep[1] = false, true
	wantErr(t, "the armed operation", d.Sync(0), api.ErrPower)
	must(t, d.Start())
	wantFile(t, d, 0, sectors(1), 0)
	d.Crash(disk.Crash{Keep: keep[:2]})
	if keep[0] || !keep[1] || !keep[2] {
		t.Error("what is kept of a crash was changed")
	}
}

// place is one sector of the model: what it has, what is sure of it, and whether it ever was sure.
type place struct {
	now, sure   []byte
	dirty, ever bool
}

// model is a disk as the chapter words it, each sector by itself.
type model struct {
	room, ops, armed int
	off              bool
	files            [2][]place
	sure             [2]int
	then             disk.Crash
}

func (m *model) operation() bool {
	m.ops++
	m.armed--
	if m.armed == 0 {
		m.crash(m.then)
		return false
	}
	return true
}

func (m *model) write(file, at int, b []byte) api.Errno {
	switch {
	case m.off:
		return api.ErrPower
	case file < 0 || file > 1 || at < 0 || at > len(m.files[file]):
		return api.ErrRange
	case len(b) == 0 || len(b)%size > 0:
		return api.ErrArg
	case !m.operation():
		return api.ErrPower
	}
	end := max(at+len(b)/size, len(m.files[file]))
	if end+len(m.files[1-file]) > m.room {
		return api.ErrFull
	}
	for len(m.files[file]) < end {
		m.files[file] = append(m.files[file], place{})
	}
	for i := range len(b) / size {
		p := &m.files[file][at+i]
		p.now, p.dirty = bytes.Clone(b[i*size:(i+1)*size]), true
	}
	return api.OK
}

func (m *model) sync(file int) api.Errno {
	switch {
	case m.off:
		return api.ErrPower
	case file < 0 || file > 1:
		return api.ErrRange
	case !m.operation():
		return api.ErrPower
	}
	for i, p := range m.files[file] {
		m.files[file][i] = place{now: p.now, sure: p.now, ever: true}
	}
	m.sure[file] = len(m.files[file])
	return api.OK
}

func (m *model) cut(file, n int) api.Errno {
	switch {
	case m.off:
		return api.ErrPower
	case file < 0 || file > 1 || n < 0 || n > len(m.files[file]):
		return api.ErrRange
	case !m.operation():
		return api.ErrPower
	}
	m.files[file] = slices.Clone(m.files[file][:n])
	m.sure[file] = n
	return api.OK
}

func (m *model) crash(c disk.Crash) {
	m.off, m.armed = true, 0
	i, rent := 0, false
	for file := range m.files {
		length := m.sure[file]
		for at, p := range m.files[file] {
			if !p.dirty {
				continue
			}
			before := make([]byte, size)
			if p.ever {
				before = p.sure
			}
			stay := 0
			if len(c.Keep) > 0 && c.Keep[i%len(c.Keep)] {
				stay = size
			} else if !rent {
				rent = true
				if c.Torn > 0 {
					stay = min(c.Torn, size)
				}
			}
			i++
			left := append(bytes.Clone(p.now[:stay]), before[stay:]...)
			m.files[file][at] = place{now: left, sure: left, ever: true}
			if stay > 0 && at >= length {
				length = at + 1
			}
		}
		m.files[file] = m.files[file][:length]
		m.sure[file] = length
	}
}

func (m *model) copied() *model {
	out := *m
	for file := range m.files {
		out.files[file] = slices.Clone(m.files[file])
	}
	return &out
}

func (m *model) dirty(file int) int {
	n := 0
	for _, p := range m.files[file] {
		if p.dirty {
			n++
		}
	}
	return n
}

func (m *model) bytes(file int) []byte {
	var out []byte
	for _, p := range m.files[file] {
		out = append(out, p.now...)
	}
	return out
}

// dice tells numbers without a rule, the same in each run.
type dice uint64

func (s *dice) under(n int) int {
	*s ^= *s << 13
	*s ^= *s >> 7
	*s ^= *s << 17
	return int(uint64(*s>>11) % uint64(n))
}

func (s *dice) crash() disk.Crash {
	c := disk.Crash{Torn: s.under(size+20) - 10}
	for range s.under(6) {
		c.Keep = append(c.Keep, s.under(2) == 0)
	}
	return c
}

// alike holds a disk against its model in all that it tells.
func alike(t *testing.T, d *disk.Disk, m *model) {
	t.Helper()
	if d.On() == m.off || d.Ops() != m.ops || d.Room() != m.room {
		t.Fatalf("on %v, %d operations, room %d, want %v, %d, %d", d.On(), d.Ops(), d.Room(), !m.off, m.ops, m.room)
	}
	// A copy that is started tells the bytes, be the power on or not.
	c := d.Copy()
	c.Start()
	for file := range 2 {
		if d.Sectors(file) != len(m.files[file]) || d.Dirty(file) != m.dirty(file) {
			t.Fatalf("file %d: %d sectors, %d dirty, want %d, %d", file, d.Sectors(file), d.Dirty(file), len(m.files[file]), m.dirty(file))
		}
		if b, e := c.Read(file, 0, c.Sectors(file)); e != api.OK || !bytes.Equal(b, m.bytes(file)) {
			t.Fatalf("file %d: %s, %v, want %v", file, e, short(b), short(m.bytes(file)))
		}
	}
}

// step does one thing to a disk and to its model; they answer the same.
func step(t *testing.T, s *dice, d *disk.Disk, m *model) {
	t.Helper()
	file := s.under(2)
	if s.under(40) == 0 {
		file = s.under(5) - 2
	}
	length := 0
	if file == 0 || file == 1 {
		length = len(m.files[file])
	}
	switch s.under(12) {
	case 0, 1, 2, 3, 4:
		at := s.under(length+3) - 1
		b := make([]byte, s.under(5)*size)
		for i := range b {
			b[i] = byte(s.under(256))
		}
		if s.under(30) == 0 {
			b = append(b, 1)
		}
		wantErr(t, "Write", d.Write(file, at, b), m.write(file, at, b))
	case 5, 6:
		wantErr(t, "Sync", d.Sync(file), m.sync(file))
	case 7:
		n := s.under(length+3) - 1
		wantErr(t, "Cut", d.Cut(file, n), m.cut(file, n))
	case 8:
		n, c := s.under(8), s.crash()
		wantErr(t, "Arm", d.Arm(n, c), api.OK)
		m.armed, m.then = n, c
	case 9:
		c := s.crash()
		on := !m.off
		if on {
			m.crash(c)
		}
		if d.Crash(c) != on {
			t.Errorf("Crash: want %v", on)
		}
	default:
		wantErr(t, "Start", d.Start(), api.OK)
		m.off, m.armed = false, 0
	}
}

func TestAgainstTheModel(t *testing.T) {
	s := dice(88172645463325252)
	for round := range 300 {
		room := 1 + s.under(20)
		d, m := disk.New(room), &model{room: room}
		var past *disk.Disk
		var pastModel *model
		for range 60 {
			step(t, &s, d, m)
			alike(t, d, m)
			if s.under(20) == 0 {
				past, pastModel = d.Copy(), m.copied()
			}
		}
		if past != nil {
			alike(t, past, pastModel)
			for range 20 {
				step(t, &s, past, pastModel)
				alike(t, past, pastModel)
			}
			alike(t, d, m)
		}
		if t.Failed() {
			t.Fatalf("in round %d", round)
		}
	}
}

// TestWhatFollows is P4.5: what is sure stays, and a crash with all kept makes all sure and changes nothing else.
func TestWhatFollows(t *testing.T) {
	s := dice(88172645463325252)
	for range 300 {
		room := 1 + s.under(20)
		d, m := disk.New(room), &model{room: room}
		for range 30 {
			step(t, &s, d, m)
		}
		must(t, d.Start())
		all := d.Copy()
		crashed(t, all, disk.Crash{Keep: []bool{true, true}, Torn: s.under(size)})
		crashed(t, all, disk.Crash{})
		for file := range 2 {
			want, _ := d.Read(file, 0, d.Sectors(file))
			wantFile(t, all, file, want, 0)
		}
		must(t, d.Sync(0))
		must(t, d.Sync(1))
		sure := d.Copy()
		crashed(t, sure, s.crash())
		for file := range 2 {
			want, _ := d.Read(file, 0, d.Sectors(file))
			wantFile(t, sure, file, want, 0)
		}
	}
}
