package pager

import (
	"slices"

	"hachure/api"
	"hachure/disk"
	"hachure/journal"
)

// pageSectors is how many sectors a page has.
const pageSectors = api.PageSize / api.SectorSize

// step is something that is done to a disk.
type step func() api.Errno

// first does the steps in their order, up to the first one that fails: its error.
func first(steps ...step) api.Errno {
	for _, s := range steps {
		if err := s(); err != api.OK {
			return err
		}
	}
	return api.OK
}

// place is the sector of file 0 at which the page stands.
func place(page int) int {
	return (page - 1) * pageSectors
}

func write(d *disk.Disk, file, at int, b []byte) step {
	return func() api.Errno { return d.Write(file, at, b) }
}

func sync(d *disk.Disk, file int) step {
	return func() api.Errno { return d.Sync(file) }
}

// cut leaves a file at most so many sectors; one that has no more is left alone.
func cut(d *disk.Disk, file, sectors int) step {
	return func() api.Errno {
		if d.Sectors(file) <= sectors {
			return api.OK
		}
		return d.Cut(file, sectors)
	}
}

// store makes what the transaction changed sure on the disk, or leaves the disk as it was, if there is no room.
func (p *Pager) store() api.Errno {
	h, l, err := p.past()
	if err != api.OK {
		return err
	}
	if err := first(p.recorded(h, l)...); err != api.OK {
		return undone(err, cut(p.disk, disk.Journal, 0))
	}
	if err := first(p.written()...); err != api.OK {
		return undone(err, replay(p.disk, h, l)...)
	}
	return api.OK
}

// undone is the error that led to undoing by these steps; or theirs, if they fail, too.
func undone(err api.Errno, steps ...step) api.Errno {
	if again := first(steps...); again != api.OK {
		return again
	}
	return err
}

// past is the journal of the pages that were changed, or are no more, as they were at Begin.
func (p *Pager) past() (journal.Head, []journal.Record, api.Errno) {
	pages := slices.DeleteFunc(p.now.pagesChanged(), func(page int) bool { return page > p.pages })
	for page := p.now.pages + 1; page <= p.pages; page++ {
		pages = append(pages, page)
	}
	l := make([]journal.Record, len(pages))
	for i, page := range pages {
		b, err := p.before(page)
		if err != api.OK {
			return journal.Head{}, nil, err
		}
		l[i] = journal.Record{Page: page, Data: b}
	}
	// No two journals of a disk begin behind as many operations: no record of one passes for another's.
	h := journal.Head{Count: len(l), Pages: p.pages, Nonce: uint64(p.disk.Ops())}
	return h, l, api.OK
}

// recorded makes the journal sure, and then hot: were the head whole at once, it might stay where records do not.
func (p *Pager) recorded(h journal.Head, l []journal.Record) []step {
	return []step{
		write(p.disk, disk.Journal, 0, journal.Bytes(h, l, false)),
		sync(p.disk, disk.Journal),
		write(p.disk, disk.Journal, 0, journal.HeadBytes(h, true)),
		sync(p.disk, disk.Journal),
	}
}

// written makes the pages sure that were changed, and then the journal go.
func (p *Pager) written() []step {
	var out []step
	for _, page := range p.now.pagesChanged() {
		out = append(out, write(p.disk, disk.Data, place(page), p.now.changed[page]))
	}
	return append(out,
		sync(p.disk, disk.Data),
		cut(p.disk, disk.Data, p.now.pages*pageSectors),
		cut(p.disk, disk.Journal, 0),
	)
}

// replay makes file 0 what it was when the journal was begun, and then the journal go.
func replay(d *disk.Disk, h journal.Head, l []journal.Record) []step {
	var out []step
	for _, r := range l {
		out = append(out, write(d, disk.Data, place(r.Page), r.Data))
	}
	return append(out,
		cut(d, disk.Data, h.Pages*pageSectors),
		sync(d, disk.Data),
		cut(d, disk.Journal, 0),
	)
}

// recovered leaves a disk without a journal, by replaying the one that is hot: how many records it has.
func recovered(d *disk.Disk) (int, api.Errno) {
	b, err := d.Read(disk.Journal, 0, d.Sectors(disk.Journal))
	if err != api.OK {
		return 0, err
	}
	end := d.Sectors(disk.Data)
	steps := []step{cut(d, disk.Journal, 0)}
	var l []journal.Record
	if journal.Hot(b) {
		var h journal.Head
		if h, l, err = journal.Parse(b); err != api.OK {
			return 0, api.ErrBad
		}
		if end, err = foreseen(d, h, l); err != api.OK {
			return 0, err
		}
		steps = replay(d, h, l)
	}
	if end%pageSectors != 0 || end/pageSectors > api.MaxPages {
		return 0, api.ErrBad
	}
	return len(l), first(steps...)
}

// foreseen is how many sectors file 0 has once the journal is replayed, or why it can not be: it is asked ahead, for a call that fails changes nothing.
func foreseen(d *disk.Disk, h journal.Head, l []journal.Record) (int, api.Errno) {
	end, room := d.Sectors(disk.Data), d.Room()-d.Sectors(disk.Journal)
	for _, r := range l {
		at := place(r.Page)
		if at > end {
			return 0, api.ErrBad
		}
		if at+pageSectors > room {
			return 0, api.ErrFull
		}
		end = max(end, at+pageSectors)
	}
	return min(end, h.Pages*pageSectors), api.OK
}
