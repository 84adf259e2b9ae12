package extent

import (
	"barograph/api"
	"barograph/disk"
)

// powered makes a call, unless an operation has found the power gone; if one does now, no later call is made.
func (s *Store) powered(call func() api.Errno) api.Errno {
	if s.dark {
		return api.ErrDark
	}
	e := call()
	s.dark = e == api.ErrDark
	return e
}

// inOrder takes steps until one fails.
func inOrder(steps ...func() api.Errno) api.Errno {
	for _, step := range steps {
		if e := step(); e != api.OK {
			return e
		}
	}
	return api.OK
}

// read reads sectors, one behind another.
func read(d *disk.Disk, sectors []int) ([]byte, api.Errno) {
	data := make([]byte, 0, len(sectors)*api.Sector)
	for _, at := range sectors {
		b, e := d.Read(at)
		if e != api.OK {
			return nil, e
		}
		data = append(data, b...)
	}
	return data, api.OK
}

// write fills sectors with data, and with zeros behind it.
func write(d *disk.Disk, sectors []int, data []byte) api.Errno {
	for _, at := range sectors {
		b := make([]byte, api.Sector)
		data = data[copy(b, data):]
		if e := d.Write(at, b); e != api.OK {
			return e
		}
	}
	return api.OK
}
