package frame

import (
	"bytes"
	"iter"

	"proctor/api"
)

// Split is the frames of a channel whose bytes data is, of size bytes each, or ErrArg.
func Split(channel uint64, data []byte, size int) ([]api.Frame, api.Errno) {
	if size < 1 || size > api.MaxFrame || len(data) > size*api.MaxSeq {
		return nil, api.ErrArg
	}
	var frames []api.Frame
	for last := false; !last; {
		var body []byte
		body, data = cut(data, size)
		last = len(data) == 0
		frames = append(frames, api.Frame{Channel: channel, Seq: len(frames), Last: last, Body: bytes.Clone(body)})
	}
	return frames, api.OK
}

// cut is the first n bytes of b, or all if there are fewer, and the others; neither reaches beyond its own end.
func cut(b []byte, n int) (first, rest []byte) {
	n = min(n, len(b))
	return b[:n:n], b[n:len(b):len(b)]
}

// Join is the bytes of a channel, if all its frames up to its end are among l.
func Join(channel uint64, l ...api.Frame) ([]byte, bool) {
	found := map[int]api.Frame{}
	// Asked of a frame when all ahead of it that count are found.
	counts := func(f api.Frame) bool {
		_, earlier := found[f.Seq]
		return f.Channel == channel && may(f) && !earlier
	}
	// Without a Last frame the end stays where no frame that may be is found.
	end := api.MaxSeq
	for f := range those(l, counts) {
		found[f.Seq] = f
		if f.Last {
			end = min(end, f.Seq)
		}
	}
	return bodies(found, end)
}

// those are the things of l that are kept, one by one: whether the next one is kept is not asked ahead.
func those[T any](l []T, keep func(T) bool) iter.Seq[T] {
	return func(yield func(T) bool) {
		for _, x := range l {
			if keep(x) && !yield(x) {
				return
			}
		}
	}
}

// bodies is what the frames from 0 to end hold, one behind the other, if all of them were found.
func bodies(found map[int]api.Frame, end int) ([]byte, bool) {
	var data []byte
	for seq := range end + 1 {
		f, ok := found[seq]
		if !ok {
			return nil, false
		}
		data = append(data, f.Body...)
	}
	return data, true
}
