package trace

import "ticketline/api"

// Waits returns where threads have waited, or an error.
func Waits(l []api.Did) ([]api.Waited, api.Errno) {
	if e := wrong(l); e != api.OK {
		return nil, e
	}
	w := watch{open: map[int]int{}, last: map[int]change{}}
	for i, d := range l {
		w.see(i, d)
	}
	for t := range w.open { // in any order: each changes its own wait alone
		w.close(t)
	}
	return w.waits, api.OK
}

// watch is what is known of the waits of a trace, up to some place in it.
type watch struct {
	waits []api.Waited
	open  map[int]int    // by their threads, where in waits those are that may go on
	last  map[int]change // by words, what has changed them last
}

// change is something that has changed a word: its index and its thread.
type change struct{ at, by int }

// see goes on by one thing of the trace.
func (w *watch) see(i int, d api.Did) {
	if !w.goesOn(d) {
		w.close(d.Thread)
		w.begin(i, d)
	}
	if changes(d.Access) {
		w.last[d.Access.Word] = change{i, d.Thread}
	}
}

// goesOn reports whether a thing belongs to the open wait of its thread.
func (w *watch) goesOn(d api.Did) bool {
	n, is := w.open[d.Thread]
	return is && waitsAtWord(d) && w.waits[n].Word == d.Access.Word
}

// begin opens a wait, if a thing is the first one of a wait.
func (w *watch) begin(i int, d api.Did) {
	if !waitsAtWord(d) {
		return
	}
	w.open[d.Thread] = len(w.waits)
	w.waits = append(w.waits, api.Waited{Thread: d.Thread, Word: d.Access.Word, From: i, To: -1, By: -1})
}

// close ends the wait of a thread, if one is open: the last change of its word is what it has waited for, if it came within the wait.
// Such a change is always one of another thread: this one has only loaded.
func (w *watch) close(t int) {
	n, is := w.open[t]
	if !is {
		return
	}
	delete(w.open, t)
	waited := &w.waits[n]
	if c, is := w.last[waited.Word]; is && c.at > waited.From {
		waited.To, waited.By = c.at, c.by
	}
}

// waitsAtWord reports whether a thread has waited with an access.
func waitsAtWord(d api.Did) bool { return d.Waits && d.Access.Kind == api.AccessLoad }
