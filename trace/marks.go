package trace

// marks are things that were met on a way and kept: the one at its beginning, and then one behind each gap steps.
type marks[T any] struct {
	gap    int
	things []T
}

// keep puts the thing at the next mark behind the others.
func (l *marks[T]) keep(x T) { l.things = append(l.things, x) }

// count is how many things were kept.
func (l *marks[T]) count() int { return len(l.things) }

// upTo is the thing at the last mark that k steps reach, and how many of them are left from there.
func (l *marks[T]) upTo(k int) (x T, rest int) { return l.things[k/l.gap], k % l.gap }
