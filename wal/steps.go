package wal

import (
	"errors"

	"barograph/api"
	"barograph/extent"
)

// failure is an error, and the step that met it.
type failure struct {
	step string
	err  error
}

func (f *failure) Error() string { return f.step + ": " + f.err.Error() }

func (f *failure) Unwrap() error { return f.err }

// failed is what a step answered, as an error; nil: it went well.
func failed(step string, e api.Errno) error {
	if e == api.OK {
		return nil
	}
	return &failure{step, e}
}

// told is an error as this layer's calls tell it.
func told(err error) api.Errno {
	if errors.Is(err, api.ErrExtentMany) {
		return api.ErrFull
	}
	var errno api.Errno
	if !errors.As(err, &errno) {
		return api.OK
	}
	return errno
}

// step is something that is done to a store.
type step struct {
	name string
	take func() api.Errno
}

// inOrder takes steps until one fails.
func inOrder(steps ...step) error {
	for _, x := range steps {
		if err := failed(x.name, x.take()); err != nil {
			return err
		}
	}
	return nil
}

// file is one of a store, with the bytes that it is to have; what can be done with it are steps.
type file struct {
	store *extent.Store
	name  string
	data  []byte
}

func (f file) put() api.Errno { return f.store.Put(f.name, f.data) }

func (f file) lay() api.Errno { return f.store.Make(f.name, api.Segment) }

func (f file) remove() api.Errno { return f.store.Remove(f.name) }

func putList(s *extent.Store, l []segment) step {
	return step{"put " + listName, file{s, listName, encode(l)}.put}
}

func makeLog(s *extent.Store, g segment) step {
	return step{"make " + g.logName(), file{s, g.logName(), nil}.lay}
}

func removeFile(s *extent.Store, name string) step {
	return step{"remove " + name, file{s, name, nil}.remove}
}
