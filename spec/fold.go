package spec

import "iter"

// fold tells what a list makes of a first value: 0 with that itself, 1 with what the first element makes of it, and so on to all elements.
func fold[E, A any](l []E, first A, step func(A, E) A) iter.Seq2[int, A] {
	return func(yield func(int, A) bool) {
		at := first
		if !yield(0, at) {
			return
		}
		for i, x := range l {
			at = step(at, x)
			if !yield(i+1, at) {
				return
			}
		}
	}
}

// last is the value that is told last.
func last[A any](told iter.Seq2[int, A]) A {
	var end A
	for _, a := range told {
		end = a
	}
	return end
}
