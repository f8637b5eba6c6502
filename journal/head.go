package journal

import (
	"hachure/api"
	"hachure/octet"
	"hachure/sum"
)

const (
	// opening is how each head begins.
	opening = "hachur"
	// wholeMark is the last byte of a whole head: as it comes last, a head that was cut short has it not.
	wholeMark = 165
	// headSize is how many bytes a head has.
	headSize = headSectors * api.SectorSize
	// summed is how many bytes of a head its sum is of.
	summed = len(opening) + countSize + countSize + nonceSize
	// headSpare is how many noughts a head has ahead of its mark.
	headSpare = headSize - summed - sumSize - 1
)

// How many bytes the numbers of heads and records have, the greatest byte first.
const (
	countSize = 4
	nonceSize = 8
	sumSize   = 4
)

// Head is how many records a journal has, how many pages there were, and a number that its records are bound to.
type Head struct {
	Count int
	Pages int
	Nonce uint64
}

// good says whether the head may be written.
func (h Head) good() bool {
	return counted(h.Count) && counted(h.Pages)
}

// HeadBytes is the head's sector; nothing if it may not be written.
func HeadBytes(h Head, whole bool) []byte {
	if !h.good() {
		return nil
	}
	b := octet.Put([]byte(opening), uint64(h.Count), countSize, false)
	b = octet.Put(b, uint64(h.Pages), countSize, false)
	b = octet.Put(b, h.Nonce, nonceSize, false)
	b = octet.Put(b, uint64(sum.Of(b)), sumSize, false)
	out := make([]byte, headSize)
	copy(out, b)
	if whole {
		out[headSize-1] = wholeMark
	}
	return out
}

// ReadHead is the head whose sector begins b; it has to be whole.
func ReadHead(b []byte) (Head, api.Errno) {
	if len(b) < headSize {
		return Head{}, api.ErrShort
	}
	s := octet.Read(b[:headSize])
	number, next := s.Num, s.Bytes
	begins := string(next(len(opening))) == opening
	h := Head{
		Count: int(number(countSize, false)),
		Pages: int(number(countSize, false)),
		Nonce: number(nonceSize, false),
	}
	right := number(sumSize, false) == uint64(sum.Of(b[:summed]))
	blank := noughts(next(headSpare))
	if !begins || !right || !blank || s.Byte() != wholeMark || !h.good() {
		return Head{}, api.ErrBad
	}
	return h, api.OK
}

// counted says whether n may be a number of pages.
func counted(n int) bool {
	return n >= 0 && n <= api.MaxPages
}

// noughts says whether these bytes, at most a sector of them, are all 0.
func noughts(b []byte) bool {
	var all, none [api.SectorSize]byte
	copy(all[:], b)
	return all == none
}
