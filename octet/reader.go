package octet

import (
	"catenary/api"
)

// Reader reads bytes from the front. Its first error stays; behind it nothing is left.
type Reader struct {
	left []byte
	err  api.Errno
}

// Read is a reader of b, as b is now.
func Read(b []byte) *Reader {
	return &Reader{left: copyOf(b, 0)}
}

// Num reads a number of a size.
func (r *Reader) Num(size int) int {
	if r == nil {
		return 0
	}
	if !isSize(size) {
		r.fail(api.ErrArg)
		return 0
	}
	return number(r.take(size))
}

// Text reads a text.
func (r *Reader) Text() []byte {
	if r == nil {
		return nil
	}
	return copyOf(r.take(r.Num(2)), 0)
}

// Left is how many bytes are left.
func (r *Reader) Left() int {
	if r == nil {
		return 0
	}
	return len(r.left)
}

// Err is what was wrong first.
func (r *Reader) Err() api.Errno {
	if r == nil {
		return api.OK
	}
	return r.err
}

// End tells what was wrong first, or that bytes are left. It only asks: whoever sees ErrForm may read on.
func (r *Reader) End() api.Errno {
	if r.Left() > 0 {
		return api.ErrForm
	}
	return r.Err()
}

// take takes n bytes off the front; none, if there are fewer.
func (r *Reader) take(n int) []byte {
	if n > len(r.left) {
		r.fail(api.ErrTrunc)
		return nil
	}
	front := r.left[:n]
	r.left = r.left[n:]
	return front
}

// fail notes an error, unless there was one already.
func (r *Reader) fail(e api.Errno) {
	if r.err == api.OK {
		r.left, r.err = nil, e
	}
}
