package journal_test

import (
	"bytes"
	"encoding/binary"
	"hash/crc32"
	"math"
	"slices"
	"testing"

	"hachure/api"
	"hachure/journal"
)

// Sizes and places by the chapter's words, as numbers of their own.
const (
	sector   = 128
	record   = 640
	page     = 512
	most     = 4000
	headSum  = 22 // where a head's sum stands
	headZero = 26 // where its noughts begin
	markAt   = 127
	mark     = 165
	recSum   = 4
	recZero  = 8
)

// nonces are numbers at the ends of 64 bits and of their halves, and one whose bytes all differ.
var nonces = []uint64{0, 1, 255, 256, 1 << 31, 1<<32 - 1, 1 << 32, 1 << 63, math.MaxUint64, 0x0102030405060708}

// counts are numbers of pages that may be.
var counts = []int{0, 1, 2, 255, 256, 257, 3999, most}

// noCounts are numbers of pages that may not be; four bytes of some of them are those of one that may.
var noCounts = []int{math.MinInt, math.MinInt + 1, -1 << 32, -1<<32 + 1, -most, -1, most + 1, 1 << 31, 1<<32 - 1, 1 << 32, 1<<32 + 1, math.MaxInt}

// mixed tells count bytes that are the same in each run.
func mixed(seed uint64, count int) []byte {
	out := make([]byte, count)
	seed = seed*2 + 88172645463325253
	for i := range out {
		seed ^= seed << 13
		seed ^= seed >> 7
		seed ^= seed << 17
		out[i] = byte(seed >> 32)
	}
	return out
}

// crc is a sum that the library reckons.
func crc(pieces ...[]byte) uint32 {
	return crc32.Checksum(slices.Concat(pieces...), crc32.MakeTable(crc32.Castagnoli))
}

// rawHead is a head's sector by the chapter's words, be its numbers right or not, with the right sum.
func rawHead(begin string, count, pages uint32, nonce uint64, last byte) []byte {
	b := []byte(begin)
	b = binary.BigEndian.AppendUint32(b, count)
	b = binary.BigEndian.AppendUint32(b, pages)
	b = binary.BigEndian.AppendUint64(b, nonce)
	b = binary.BigEndian.AppendUint32(b, crc(b))
	b = append(b, make([]byte, sector-len(b))...)
	b[markAt] = last
	return b
}

// rawRecord is a record's sectors by the chapter's words, be its page right or not, with the right sum.
func rawRecord(number uint32, data []byte, nonce uint64) []byte {
	b := binary.BigEndian.AppendUint32(nil, number)
	b = binary.BigEndian.AppendUint32(b, crc(b, binary.BigEndian.AppendUint64(nil, nonce), data))
	b = append(b, make([]byte, sector-len(b))...)
	return append(b, data...)
}

// records are some with these pages, the data of each its own.
func records(pages ...int) []journal.Record {
	out := make([]journal.Record, len(pages))
	for i, p := range pages {
		out[i] = journal.Record{Page: p, Data: mixed(uint64(p), page)}
	}
	return out
}

// upTo are the pages 1 to n.
func upTo(n int) []int {
	out := make([]int, n)
	for i := range out {
		out[i] = i + 1
	}
	return out
}

func sameRecord(a, b journal.Record) bool {
	return a.Page == b.Page && bytes.Equal(a.Data, b.Data)
}

func wantHead(t *testing.T, what string, b []byte, want journal.Head) {
	t.Helper()
	if h, e := journal.ReadHead(b); h != want || e != api.OK {
		t.Errorf("%s: ReadHead %v, %v, want %v", what, h, e, want)
	}
	if !journal.Hot(b) {
		t.Errorf("%s: not Hot", what)
	}
}

func wantNoHead(t *testing.T, what string, b []byte, want api.Errno) {
	t.Helper()
	if h, e := journal.ReadHead(b); h != (journal.Head{}) || e != want {
		t.Errorf("%s: ReadHead %v, %v, want %v", what, h, e, want)
	}
	if journal.Hot(b) {
		t.Errorf("%s: Hot", what)
	}
}

func wantRecord(t *testing.T, what string, b []byte, nonce uint64, want journal.Record) {
	t.Helper()
	if r, e := journal.ReadRecord(b, nonce); !sameRecord(r, want) || e != api.OK {
		t.Errorf("%s: ReadRecord: page %d, %d bytes, %v, want page %d", what, r.Page, len(r.Data), e, want.Page)
	}
}

func wantNoRecord(t *testing.T, what string, b []byte, nonce uint64, want api.Errno) {
	t.Helper()
	if r, e := journal.ReadRecord(b, nonce); !sameRecord(r, journal.Record{}) || e != want {
		t.Errorf("%s: ReadRecord: page %d, %d bytes, %v, want %v", what, r.Page, len(r.Data), e, want)
	}
}

func wantJournal(t *testing.T, what string, b []byte, h journal.Head, l []journal.Record) {
	t.Helper()
	got, list, e := journal.Parse(b)
	if got != h || e != api.OK || !slices.EqualFunc(list, l, sameRecord) {
		t.Errorf("%s: Parse %v, %d records, %v, want %v, %d records", what, got, len(list), e, h, len(l))
	}
}

func wantNoJournal(t *testing.T, what string, b []byte, want api.Errno) {
	t.Helper()
	if h, l, e := journal.Parse(b); h != (journal.Head{}) || len(l) != 0 || e != want {
		t.Errorf("%s: Parse %v, %d records, %v, want %v", what, h, len(l), e, want)
	}
}

// wantGood holds Good and Bytes to one another: what is not Good has no Bytes.
func wantGood(t *testing.T, what string, h journal.Head, l []journal.Record, want bool) {
	t.Helper()
	if got := journal.Good(h, l); got != want {
		t.Errorf("%s: Good is %v", what, got)
	}
	for _, whole := range []bool{false, true} {
		size := 0
		if want {
			size = sector + len(l)*record
		}
		if b := journal.Bytes(h, l, whole); len(b) != size {
			t.Errorf("%s: Bytes has %d, want %d", what, len(b), size)
		}
	}
}

func TestExampleTwoRecords(t *testing.T) {
	if n := journal.Sectors(2); n != 11 {
		t.Errorf("a journal of two records has %d sectors, want 11", n)
	}
	b := journal.Bytes(journal.Head{Count: 2, Pages: 2, Nonce: 1}, records(1, 2), true)
	if len(b) != 11*api.SectorSize {
		t.Errorf("a journal of two records has %d bytes, want 11 sectors", len(b))
	}
}

// TestHeadWrittenOut: each byte of one head, its sum reckoned elsewhere.
func TestHeadWrittenOut(t *testing.T) {
	want := make([]byte, sector)
	copy(want, []byte{
		'h', 'a', 'c', 'h', 'u', 'r', 0, 0, 1, 2, 0, 0, 0xf, 0xa0, 1, 2, 3, 4, 5, 6, 7, 8,
	})
	binary.BigEndian.PutUint32(want[22:], crc(want[:22]))
	h := journal.Head{Count: 258, Pages: 4000, Nonce: 0x0102030405060708}
	if b := journal.HeadBytes(h, false); !bytes.Equal(b, want) {
		t.Errorf("a head that is not whole: %v, want %v", b, want)
	}
	want[127] = 165
	if b := journal.HeadBytes(h, true); !bytes.Equal(b, want) {
		t.Errorf("a whole head: %v, want %v", b, want)
	}
}

func TestHeads(t *testing.T) {
	for _, count := range counts {
		for _, pages := range counts {
			for _, nonce := range nonces {
				h := journal.Head{Count: count, Pages: pages, Nonce: nonce}
				whole := rawHead("hachur", uint32(count), uint32(pages), nonce, mark)
				if b := journal.HeadBytes(h, true); !bytes.Equal(b, whole) {
					t.Fatalf("HeadBytes of %v, whole: %v", h, b)
				}
				wantHead(t, "a whole head", whole, h)
				half := rawHead("hachur", uint32(count), uint32(pages), nonce, 0)
				if b := journal.HeadBytes(h, false); !bytes.Equal(b, half) {
					t.Fatalf("HeadBytes of %v, not whole: %v", h, b)
				}
				wantNoHead(t, "a head that is not whole", half, api.ErrBad)
			}
		}
	}
}

func TestHeadsOfWrongNumbers(t *testing.T) {
	for _, wrong := range noCounts {
		for _, other := range slices.Concat(counts, noCounts) {
			for _, whole := range []bool{false, true} {
				if b := journal.HeadBytes(journal.Head{Count: wrong, Pages: other, Nonce: 7}, whole); len(b) != 0 {
					t.Errorf("HeadBytes with Count %d: %d bytes", wrong, len(b))
				}
				if b := journal.HeadBytes(journal.Head{Count: other, Pages: wrong, Nonce: 7}, whole); len(b) != 0 {
					t.Errorf("HeadBytes with Pages %d: %d bytes", wrong, len(b))
				}
			}
		}
	}
}

// TestReadHeadOfWrongNumbers: with the right sum, and whole, they are no head all the same.
func TestReadHeadOfWrongNumbers(t *testing.T) {
	for _, wrong := range []uint32{most + 1, 1 << 16, 1<<31 - 1, 1 << 31, math.MaxUint32 - most, math.MaxUint32} {
		wantNoHead(t, "Count", rawHead("hachur", wrong, 5, 3, mark), api.ErrBad)
		wantNoHead(t, "Pages", rawHead("hachur", 5, wrong, 3, mark), api.ErrBad)
		wantNoJournal(t, "Pages", rawHead("hachur", 0, wrong, 3, mark), api.ErrBad)
	}
}

func TestReadHeadShort(t *testing.T) {
	good := rawHead("hachur", 1, 2, 3, mark)
	for size := range sector {
		wantNoHead(t, "the beginning of a head", good[:size], api.ErrShort)
		wantNoHead(t, "few bytes that are none", bytes.Repeat([]byte{mark}, size), api.ErrShort)
	}
	wantNoHead(t, "nil", nil, api.ErrShort)
}

func TestReadHeadWithMoreBehind(t *testing.T) {
	good := rawHead("hachur", 1, 2, 3, mark)
	for _, other := range [][]byte{{0}, {1}, mixed(1, 127), mixed(1, 128), mixed(1, 5000)} {
		wantHead(t, "a head with more behind", slices.Concat(good, other), journal.Head{Count: 1, Pages: 2, Nonce: 3})
		wantNoHead(t, "a head with something ahead", slices.Concat(other, good), api.ErrBad)
	}
	second := rawHead("hachur", 4, 5, 6, mark)
	wantHead(t, "two heads", slices.Concat(good, second), journal.Head{Count: 1, Pages: 2, Nonce: 3})
}

func TestReadHeadMarks(t *testing.T) {
	for last := range 256 {
		if last != mark {
			wantNoHead(t, "a head with another mark", rawHead("hachur", 1, 2, 3, byte(last)), api.ErrBad)
		}
	}
}

// TestReadHeadBeginnings: with the sum that they have, others begin no head.
func TestReadHeadBeginnings(t *testing.T) {
	for _, begin := range []string{"hachuR", "Hachur", "HACHUR", "ahchur", "hachus", "\x00\x00\x00\x00\x00\x00", "hachu\x00", "hatchu"} {
		wantNoHead(t, begin, rawHead(begin, 1, 2, 3, mark), api.ErrBad)
	}
}

func TestReadHeadNoughts(t *testing.T) {
	for at := headZero; at < markAt; at++ {
		for _, c := range []byte{1, 128, mark, 255} {
			b := rawHead("hachur", 1, 2, 3, mark)
			b[at] = c
			wantNoHead(t, "a head with another byte for a nought", b, api.ErrBad)
		}
	}
}

func TestReadHeadSums(t *testing.T) {
	for at := headSum; at < headZero; at++ {
		for c := 1; c < 256; c++ {
			b := rawHead("hachur", 1, 2, 3, mark)
			b[at] ^= byte(c)
			wantNoHead(t, "a head with another sum", b, api.ErrBad)
		}
	}
	b := rawHead("hachur", 1, 2, 3, mark)
	slices.Reverse(b[headSum:headZero])
	wantNoHead(t, "a head with its sum turned round", b, api.ErrBad)
}

func TestReadHeadTurnedBits(t *testing.T) {
	for _, good := range [][]byte{rawHead("hachur", 0, 0, 0, mark), rawHead("hachur", 3, 17, 0x0102030405060708, mark)} {
		for bit := range 8 * sector {
			b := slices.Clone(good)
			b[bit/8] ^= 1 << (bit % 8)
			wantNoHead(t, "a head with a bit turned", b, api.ErrBad)
		}
	}
}

func TestReadHeadOfOneByte(t *testing.T) {
	for c := range 256 {
		wantNoHead(t, "a sector of one byte", bytes.Repeat([]byte{byte(c)}, sector), api.ErrBad)
	}
}

// TestHeadWrittenInPart: of whatever head, whole or not, what was written over noughts ahead of its end is not whole.
func TestHeadWrittenInPart(t *testing.T) {
	for _, count := range counts {
		for _, nonce := range nonces {
			h := journal.Head{Count: count, Pages: most, Nonce: nonce}
			for size := range sector {
				b := make([]byte, sector)
				copy(b, journal.HeadBytes(h, true)[:size])
				wantNoHead(t, "the beginning of a whole head", b, api.ErrBad)
				wantNoJournal(t, "the beginning of a whole head", b, api.ErrBad)
			}
		}
	}
}

// TestRecordWrittenOut: each byte of one record.
func TestRecordWrittenOut(t *testing.T) {
	data := mixed(5, page)
	want := make([]byte, record)
	copy(want, []byte{0, 0, 0x0e, 0x11})
	binary.BigEndian.PutUint32(want[4:], crc([]byte{0, 0, 0x0e, 0x11, 1, 2, 3, 4, 5, 6, 7, 8}, data))
	copy(want[128:], data)
	if b := journal.RecordBytes(journal.Record{Page: 3601, Data: data}, 0x0102030405060708); !bytes.Equal(b, want) {
		t.Errorf("a record: %v, want %v", b, want)
	}
}

func TestRecords(t *testing.T) {
	for _, number := range []int{1, 2, 255, 256, 257, 3999, most} {
		for _, nonce := range nonces {
			for _, data := range [][]byte{make([]byte, page), bytes.Repeat([]byte{255}, page), mixed(nonce, page)} {
				r := journal.Record{Page: number, Data: data}
				want := rawRecord(uint32(number), data, nonce)
				if b := journal.RecordBytes(r, nonce); !bytes.Equal(b, want) {
					t.Fatalf("RecordBytes of page %d, nonce %d: %v", number, nonce, b)
				}
				wantRecord(t, "a record", want, nonce, r)
				wantRecord(t, "a record with more behind", slices.Concat(want, mixed(9, 77)), nonce, r)
			}
		}
	}
}

func TestRecordsOfWrongPages(t *testing.T) {
	for _, wrong := range append(slices.Clone(noCounts), 0) {
		for _, data := range [][]byte{mixed(1, page), nil} {
			if b := journal.RecordBytes(journal.Record{Page: wrong, Data: data}, 7); len(b) != 0 {
				t.Errorf("RecordBytes of page %d: %d bytes", wrong, len(b))
			}
		}
	}
}

func TestRecordsOfWrongData(t *testing.T) {
	for _, size := range []int{0, 1, 4, sector, page - 1, page + 1, record, 2 * page} {
		for _, number := range []int{1, 5, most, 0} {
			if b := journal.RecordBytes(journal.Record{Page: number, Data: mixed(1, size)}, 7); len(b) != 0 {
				t.Errorf("RecordBytes of %d bytes of data: %d bytes", size, len(b))
			}
		}
	}
	if b := journal.RecordBytes(journal.Record{Page: 1}, 7); len(b) != 0 {
		t.Errorf("RecordBytes without data: %d bytes", len(b))
	}
}

// TestReadRecordOfWrongPages: with the right sum they are no records all the same.
func TestReadRecordOfWrongPages(t *testing.T) {
	for _, wrong := range []uint32{0, most + 1, 1 << 16, 1<<31 - 1, 1 << 31, math.MaxUint32} {
		for _, nonce := range nonces {
			wantNoRecord(t, "a wrong page", rawRecord(wrong, mixed(3, page), nonce), nonce, api.ErrBad)
		}
	}
	wantNoRecord(t, "noughts", make([]byte, record), 0, api.ErrBad)
}

func TestReadRecordShort(t *testing.T) {
	good := rawRecord(4, mixed(4, page), 6)
	for size := range record {
		wantNoRecord(t, "the beginning of a record", good[:size], 6, api.ErrShort)
	}
	for _, size := range []int{0, 1, sector, page, record - 1} {
		wantNoRecord(t, "few bytes that are none", bytes.Repeat([]byte{255}, size), 6, api.ErrShort)
	}
	wantNoRecord(t, "nil", nil, 6, api.ErrShort)
}

func TestReadRecordNonces(t *testing.T) {
	for _, nonce := range nonces {
		b := rawRecord(4, mixed(4, page), nonce)
		for _, other := range nonces {
			if other != nonce {
				wantNoRecord(t, "a record with another nonce", b, other, api.ErrBad)
			}
		}
		for bit := range 64 {
			wantNoRecord(t, "a record with a bit of its nonce turned", b, nonce^1<<bit, api.ErrBad)
		}
	}
}

func TestReadRecordNoughts(t *testing.T) {
	for at := recZero; at < sector; at++ {
		for _, c := range []byte{1, 128, mark, 255} {
			b := rawRecord(4, mixed(4, page), 6)
			b[at] = c
			wantNoRecord(t, "a record with another byte for a nought", b, 6, api.ErrBad)
		}
	}
}

func TestReadRecordSums(t *testing.T) {
	for at := recSum; at < recZero; at++ {
		for c := 1; c < 256; c++ {
			b := rawRecord(4, mixed(4, page), 6)
			b[at] ^= byte(c)
			wantNoRecord(t, "a record with another sum", b, 6, api.ErrBad)
		}
	}
	b := rawRecord(4, mixed(4, page), 6)
	slices.Reverse(b[recSum:recZero])
	wantNoRecord(t, "a record with its sum turned round", b, 6, api.ErrBad)
}

func TestReadRecordTurnedBits(t *testing.T) {
	for _, data := range [][]byte{make([]byte, page), mixed(8, page)} {
		for _, number := range []uint32{1, 1000, most} {
			b := rawRecord(number, data, 6)
			for bit := range 8 * record {
				b[bit/8] ^= 1 << (bit % 8)
				wantNoRecord(t, "a record with a bit turned", b, 6, api.ErrBad)
				b[bit/8] ^= 1 << (bit % 8)
			}
		}
	}
}

func TestGood(t *testing.T) {
	short, long := records(1, 2, 3), records(1, 2, 3)
	short[1].Data = short[1].Data[:page-1]
	long[2].Data = append(long[2].Data, 0)
	none := records(1, 2, 3)
	none[0].Data = nil
	for _, c := range []struct {
		what  string
		count int
		pages int
		list  []journal.Record
		want  bool
	}{
		{"nothing", 0, 0, nil, true},
		{"an empty list", 0, 0, records(), true},
		{"no records of many pages", 0, most, nil, true},
		{"one record", 1, 1, records(1), true},
		{"the last page", 1, most, records(most), true},
		{"three records", 3, 3, records(1, 2, 3), true},
		{"three of more pages", 3, 9, records(2, 5, 9), true},
		{"all pages", most, most, records(upTo(most)...), true},
		{"all but one", most - 1, most, records(upTo(most)[1:]...), true},
		{"fewer than Count", 2, 9, records(1), false},
		{"none, but Count", 1, 9, nil, false},
		{"more than Count", 1, 9, records(1, 2), false},
		{"more than none", 0, 9, records(1), false},
		{"pages that fall", 2, 9, records(2, 1), false},
		{"pages that fall late", 4, 9, records(1, 3, 5, 4), false},
		{"the same page", 2, 9, records(2, 2), false},
		{"the same page late", 3, 9, records(1, 4, 4), false},
		{"a page above Pages", 1, 1, records(2), false},
		{"the last one above Pages", 3, 2, records(1, 2, 3), false},
		{"a page of none", 1, 0, records(1), false},
		{"page 0", 1, 9, records(0), false},
		{"page 0 ahead", 2, 9, records(0, 1), false},
		{"a page below 0", 1, 9, records(-1), false},
		{"pages below 0 that rise", 2, 9, records(-2, -1), false},
		{"the lowest page", 1, 9, records(math.MinInt), false},
		{"a page above MaxPages", 1, most, records(most + 1), false},
		{"the greatest page", 1, most, records(math.MaxInt), false},
		{"data that is too short", 3, 9, short, false},
		{"data that is too long", 3, 9, long, false},
		{"no data", 3, 9, none, false},
		{"too many records", most + 1, most, records(upTo(most + 1)...), false},
		{"too many pages", most + 1, most + 1, records(upTo(most + 1)...), false},
		{"a page above MaxPages that Pages has", 1, most + 1, records(most + 1), false},
	} {
		for _, nonce := range []uint64{0, math.MaxUint64} {
			wantGood(t, c.what, journal.Head{Count: c.count, Pages: c.pages, Nonce: nonce}, c.list, c.want)
		}
	}
}

func TestGoodOfWrongNumbers(t *testing.T) {
	for _, wrong := range noCounts {
		for _, l := range [][]journal.Record{nil, records(1), records(1, 2)} {
			wantGood(t, "a wrong Count", journal.Head{Count: wrong, Pages: 9}, l, false)
			wantGood(t, "wrong Pages", journal.Head{Count: len(l), Pages: wrong}, l, false)
			wantGood(t, "both wrong", journal.Head{Count: wrong, Pages: wrong}, l, false)
		}
	}
}

func TestBytes(t *testing.T) {
	for _, pages := range [][]int{nil, {1}, {most}, {1, 2}, {3, 77, 256, 3999}, upTo(100)} {
		for _, nonce := range nonces {
			h := journal.Head{Count: len(pages), Pages: most, Nonce: nonce}
			l := records(pages...)
			for last, whole := range map[byte]bool{0: false, mark: true} {
				want := rawHead("hachur", uint32(len(pages)), most, nonce, last)
				for _, r := range l {
					want = append(want, rawRecord(uint32(r.Page), r.Data, nonce)...)
				}
				b := journal.Bytes(h, l, whole)
				if !bytes.Equal(b, want) {
					t.Fatalf("Bytes of %d records, whole %v: %d bytes, or other ones, want %d", len(l), whole, len(b), len(want))
				}
				if len(b) != sector*journal.Sectors(len(l)) {
					t.Errorf("Bytes of %d records: %d, Sectors tells %d", len(l), len(b), journal.Sectors(len(l)))
				}
				if journal.Hot(b) != whole {
					t.Errorf("a journal whose head is whole (%v) is Hot (%v)", whole, !whole)
				}
			}
		}
	}
}

func TestParseLeadsBack(t *testing.T) {
	for _, pages := range [][]int{nil, {1}, {most}, {1, 2}, {3, 77, 256, 3999}, upTo(100), upTo(most)} {
		for _, nonce := range nonces {
			h := journal.Head{Count: len(pages), Pages: most, Nonce: nonce}
			l := records(pages...)
			wantJournal(t, "a whole journal", journal.Bytes(h, l, true), h, l)
			wantNoJournal(t, "a journal that is not whole", journal.Bytes(h, l, false), api.ErrBad)
		}
	}
	for pages := range most + 1 {
		h := journal.Head{Pages: pages, Nonce: uint64(pages)}
		wantJournal(t, "a journal of no records", journal.Bytes(h, nil, true), h, nil)
	}
}

func TestParseShort(t *testing.T) {
	h := journal.Head{Count: 2, Pages: 2, Nonce: 8}
	b := journal.Bytes(h, records(1, 2), true)
	for size := range len(b) {
		want := api.ErrBad
		if size < sector {
			want = api.ErrShort
		}
		wantNoJournal(t, "the beginning of a journal", b[:size], want)
		wantNoJournal(t, "bytes that are none", bytes.Repeat([]byte{7}, size), want)
	}
	wantNoJournal(t, "nil", nil, api.ErrShort)
}

// TestParseFewerRecords: Count says more than there is, up to the greatest one.
func TestParseFewerRecords(t *testing.T) {
	for _, count := range []uint32{1, 2, 3, most, most + 1, math.MaxUint32} {
		b := rawHead("hachur", count, most, 8, mark)
		for i := range min(count-1, 5) {
			wantNoJournal(t, "too few records", b, api.ErrBad)
			b = append(b, rawRecord(i+1, mixed(1, page), 8)...)
		}
		wantNoJournal(t, "too few records", b, api.ErrBad)
	}
}

func TestParseWithMoreBehind(t *testing.T) {
	h := journal.Head{Count: 2, Pages: 5, Nonce: 8}
	l := records(2, 4)
	b := journal.Bytes(h, l, true)
	for _, behind := range [][]byte{
		{1}, make([]byte, sector), mixed(1, record), mixed(1, 3000), b,
		rawRecord(5, mixed(1, page), 8), rawRecord(4, mixed(1, page), 8), rawRecord(1, mixed(1, page), 8), rawRecord(9, mixed(1, page), 9),
	} {
		wantJournal(t, "a journal with more behind", slices.Concat(b, behind), h, l)
	}
	none := journal.Head{Pages: 5, Nonce: 8}
	wantJournal(t, "a head with records behind that it does not count", slices.Concat(journal.HeadBytes(none, true), b[sector:]), none, nil)
}

// TestParseNotGood: the head is whole and each record is one, but they don't go together.
func TestParseNotGood(t *testing.T) {
	for _, c := range []struct {
		what  string
		pages uint32
		list  []uint32
	}{
		{"pages that fall", 9, []uint32{2, 1}},
		{"pages that fall late", 9, []uint32{1, 2, 5, 4}},
		{"the same page", 9, []uint32{2, 2}},
		{"a page above Pages", 3, []uint32{1, 4}},
		{"a page of none", 0, []uint32{1}},
		{"page 0", 9, []uint32{0, 1}},
		{"a page above MaxPages", most, []uint32{1, most + 1}},
		{"a page of 32 bits", most, []uint32{1, math.MaxUint32}},
	} {
		b := rawHead("hachur", uint32(len(c.list)), c.pages, 8, mark)
		for _, number := range c.list {
			b = append(b, rawRecord(number, mixed(uint64(number), page), 8)...)
		}
		wantNoJournal(t, c.what, b, api.ErrBad)
	}
}

func TestParseRecordsOfAnotherNonce(t *testing.T) {
	for at := range 3 {
		b := rawHead("hachur", 3, 9, 8, mark)
		for i := range 3 {
			nonce := uint64(8)
			if i == at {
				nonce = 9
			}
			b = append(b, rawRecord(uint32(i+1), mixed(1, page), nonce)...)
		}
		wantNoJournal(t, "a record with another nonce", b, api.ErrBad)
	}
}

func TestParseTurnedBits(t *testing.T) {
	b := journal.Bytes(journal.Head{Count: 2, Pages: 5, Nonce: 8}, records(2, 4), true)
	for bit := range 8 * len(b) {
		b[bit/8] ^= 1 << (bit % 8)
		wantNoJournal(t, "a journal with a bit turned", b, api.ErrBad)
		b[bit/8] ^= 1 << (bit % 8)
	}
}

// TestParseTellsWhatIsThere: of bytes that were changed here and there, those of which Parse tells a journal begin with its Bytes.
func TestParseTellsWhatIsThere(t *testing.T) {
	h := journal.Head{Count: 3, Pages: 50, Nonce: 77}
	good := slices.Concat(journal.Bytes(h, records(1, 9, 50), true), mixed(3, 200))
	told := 0
	for seed := range uint64(20000) {
		dice := mixed(seed, 7)
		b := slices.Clone(good)
		for i := range int(dice[0]) % 3 {
			at := int(binary.BigEndian.Uint16(dice[1+2*i:])) % len(b)
			b[at] = dice[5+i]
		}
		b = b[:len(b)-int(dice[6])%150]
		x, l, e := journal.Parse(b)
		if e != api.OK {
			continue
		}
		told++
		if out := journal.Bytes(x, l, true); len(out) == 0 || !bytes.HasPrefix(b, out) {
			t.Fatalf("seed %d: Parse tells %v, which the bytes do not begin with", seed, x)
		}
	}
	if told == 0 || told == 20000 {
		t.Errorf("%d journals were told", told)
	}
}

func TestSectors(t *testing.T) {
	for n := range most + 1 {
		if got := journal.Sectors(n); got != 1+5*n {
			t.Errorf("Sectors(%d) is %d, want %d", n, got, 1+5*n)
		}
	}
	for _, n := range []int{-1, -2, -most, -1 << 32, math.MinInt + 1, math.MinInt} {
		if got := journal.Sectors(n); got != 1 {
			t.Errorf("Sectors(%d) is %d, want 1", n, got)
		}
	}
	for _, n := range []int{most + 1, most + 2, 1 << 32, math.MaxInt - 1, math.MaxInt} {
		if got := journal.Sectors(n); got != 20001 {
			t.Errorf("Sectors(%d) is %d, want 20001", n, got)
		}
	}
}

// roomy lays b out ahead of bytes that are not handed in.
func roomy(b []byte) (handed, all []byte) {
	all = slices.Concat(b, []byte{1, 2, 3, 4})
	return all[:len(b)], all
}

func TestBytesHandedInStay(t *testing.T) {
	b, all := roomy(journal.Bytes(journal.Head{Count: 2, Pages: 5, Nonce: 8}, records(2, 4), true))
	kept := slices.Clone(all)
	journal.Hot(b)
	journal.ReadHead(b)
	journal.ReadRecord(b[sector:], 8)
	journal.ReadRecord(b, 8)
	journal.Parse(b)
	if !bytes.Equal(all, kept) {
		t.Error("bytes that were handed in, or the room behind, are changed")
	}
}

func TestRecordsHandedInStay(t *testing.T) {
	data, all := roomy(mixed(1, page))
	kept := slices.Clone(all)
	l := []journal.Record{{Page: 1, Data: data}, {Page: 2, Data: data}, {Page: 3}}
	h := journal.Head{Count: 2, Pages: 2}
	journal.RecordBytes(l[0], 8)
	journal.Good(h, l[:2])
	journal.Bytes(h, l[:2], true)
	if !bytes.Equal(all, kept) {
		t.Error("data that was handed in, or the room behind, is changed")
	}
	if l[0].Page != 1 || l[1].Page != 2 || l[2].Page != 3 || len(l[0].Data) != page || l[2].Data != nil {
		t.Error("records that were handed in are changed")
	}
}

// scribble writes over b and over its spare room.
func scribble(b []byte) {
	b = b[:cap(b)]
	for i := range b {
		b[i] ^= 0xff
	}
}

// TestAnswersAreNewMemory: who writes over an answer changes no argument, and no other part of the answer.
func TestAnswersAreNewMemory(t *testing.T) {
	h := journal.Head{Count: 2, Pages: 5, Nonce: 8}
	l := records(2, 4)
	b := journal.Bytes(h, l, true)
	kept := slices.Clone(b)
	_, list, _ := journal.Parse(b)
	scribble(list[0].Data)
	if !bytes.Equal(list[1].Data, l[1].Data) {
		t.Error("two records share their data")
	}
	scribble(list[1].Data)
	r, _ := journal.ReadRecord(b[sector:], 8)
	scribble(r.Data)
	if !bytes.Equal(b, kept) {
		t.Error("a record's data is that of the bytes it was read from")
	}
	scribble(journal.RecordBytes(l[0], 8))
	scribble(journal.Bytes(h, l, true))
	if !sameRecord(l[0], records(2)[0]) || !sameRecord(l[1], records(4)[0]) {
		t.Error("bytes are those of a record's data")
	}
	scribble(journal.HeadBytes(h, true))
	if again := journal.HeadBytes(h, true); !bytes.Equal(again, kept[:sector]) {
		t.Error("two answers of HeadBytes share memory")
	}
}

// TestBytesChangedBehindACall: nothing that was handed in is kept.
func TestBytesChangedBehindACall(t *testing.T) {
	h := journal.Head{Count: 2, Pages: 5, Nonce: 8}
	l := records(2, 4)
	b := journal.Bytes(h, l, true)
	kept := slices.Clone(b)
	scribble(l[0].Data)
	if !bytes.Equal(b, kept) {
		t.Error("Bytes has the data of a record that is changed behind it")
	}
	_, list, _ := journal.Parse(b)
	r, _ := journal.ReadRecord(b[sector:], 8)
	scribble(b)
	if !slices.EqualFunc(list, records(2, 4), sameRecord) {
		t.Error("Parse has bytes that are changed behind it")
	}
	if !sameRecord(r, records(2)[0]) {
		t.Error("ReadRecord has bytes that are changed behind it")
	}
	one := records(3)[0]
	out := journal.RecordBytes(one, 8)
	scribble(one.Data)
	if !bytes.Equal(out, rawRecord(3, records(3)[0].Data, 8)) {
		t.Error("RecordBytes has data that is changed behind it")
	}
}
