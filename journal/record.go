package journal

import (
	"hachure/api"
	"hachure/octet"
	"hachure/sum"
)

const (
	// recordSize is how many bytes a record has.
	recordSize = recordSectors * api.SectorSize
	// recordSpare is how many noughts a record has ahead of its data.
	recordSpare = api.SectorSize - countSize - sumSize
)

// Record is a page as it was.
type Record struct {
	Page int
	Data []byte
}

// good says whether the record may be written.
func (r Record) good() bool {
	return r.Page >= 1 && r.Page <= api.MaxPages && len(r.Data) == api.PageSize
}

// RecordBytes is the record's sectors; nothing if it may not be written.
func RecordBytes(r Record, nonce uint64) []byte {
	if !r.good() {
		return nil
	}
	b := octet.Put(nil, uint64(r.Page), countSize, false)
	b = octet.Put(b, uint64(r.check(nonce)), sumSize, false)
	out := make([]byte, recordSize)
	copy(out, b)
	copy(out[api.SectorSize:], r.Data)
	return out
}

// ReadRecord is the record with that nonce whose sectors begin b.
func ReadRecord(b []byte, nonce uint64) (Record, api.Errno) {
	if len(b) < recordSize {
		return Record{}, api.ErrShort
	}
	s := octet.Read(b[:recordSize])
	number, next := s.Num, s.Bytes
	r := Record{Page: int(number(countSize, false))}
	told := number(sumSize, false)
	blank := noughts(next(recordSpare))
	r.Data = next(api.PageSize)
	if !blank || !r.good() || told != uint64(r.check(nonce)) {
		return Record{}, api.ErrBad
	}
	return r, api.OK
}

// check is the sum of the record, and of the nonce, though no record has that written in it: so it is read under no other one.
func (r Record) check(nonce uint64) uint32 {
	b := octet.Put(nil, uint64(r.Page), countSize, false)
	b = octet.Put(b, nonce, nonceSize, false)
	return sum.Add(sum.Of(b), r.Data)
}
