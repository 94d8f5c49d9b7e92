package house

import (
	"bytes"

	"bursary/api"
	"bursary/disk"
	"bursary/server"
	"bursary/view"
)

// newDisk lets the house have a new disk.
func (h *house) newDisk(n uint64) error {
	if n > maxNumber {
		return api.ErrArg
	}
	d, err := disk.New(int(n))
	if err != nil {
		return err
	}
	h.disk, h.server = d, nil
	return nil
}

// open opens the disk's server.
func (h *house) open(now uint64) error {
	if h.disk == nil {
		return api.ErrArg
	}
	s, err := server.Open(h.disk, now, h.limit)
	if err != nil {
		return err
	}
	h.server = s
	return nil
}

// arm lets the disk go down later on.
func (h *house) arm(n uint64) error {
	if h.disk == nil || n > maxNumber {
		return api.ErrArg
	}
	return h.disk.Arm(int(n))
}

// crash loses what the disk has not safe, but for what is kept.
func (h *house) crash(word string) error {
	if h.disk == nil {
		return api.ErrArg
	}
	var keep []bool
	if word != nothing {
		for i := range len(word) {
			if word[i] != '0' && word[i] != '1' {
				return api.ErrForm
			}
			keep = append(keep, word[i] == '1')
		}
	}
	h.disk.Crash(keep)
	h.server = nil
	return nil
}

// tamper puts other bytes into a sector.
func (h *house) tamper(n uint64, word string) error {
	if h.disk == nil || n > maxNumber {
		return api.ErrArg
	}
	b, err := view.Bytes(word)
	if err != nil {
		return err
	}
	if len(b) < api.Sector {
		b = append(b, make([]byte, api.Sector-len(b))...)
	}
	return h.disk.Tamper(int(n), b)
}

// tick lets time go on.
func (h *house) tick(by uint64) error {
	if h.server == nil {
		return api.ErrArg
	}
	h.server.Tick(by)
	return nil
}

// draw draws some bytes more.
func (h *house) draw(word string) error {
	b, err := view.Bytes(word)
	if err != nil {
		return err
	}
	if len(h.drawn)+len(b) > maxDrawn {
		return api.ErrLong
	}
	h.drawn = append(bytes.Clone(h.drawn), b...)
	return nil
}

// as lets somebody else ask.
func (h *house) as(word string) error {
	b, err := h.value(word)
	if err != nil {
		return err
	}
	h.asks = b
	return nil
}

// keep gives a field that was answered last a name.
func (h *house) keep(at uint64, name string) error {
	if at >= uint64(len(h.fields)) {
		return api.ErrNone
	}
	if _, ok := h.names[name]; !ok && len(h.names) == maxNames {
		return api.ErrQuota
	}
	h.names[name] = h.fields[at]
	return nil
}
