package sender

// window is places, of which each is taken for one message that was said, till it is heard. What lies in a place tells nothing.
type window chan struct{}

// places is a window of n places, all of them free.
func places(n int) window {
	return make(window, n)
}

// take takes a place; false, if none is free.
func (w window) take() bool {
	select {
	case w <- struct{}{}:
		return true
	default:
		return false
	}
}

// free frees n places. So many are taken: it does not wait.
func (w window) free(n int) {
	for range n {
		<-w
	}
}

// taken is how many places are taken.
func (w window) taken() int {
	return len(w)
}
