package collide

import (
	"bytes"

	"proctor/api"
	"proctor/sha"
)

// Log sums bytes, and remembers all of them. It is made by New alone.
type Log struct {
	made   bool // a zero Log, which New did not make, is as one that is not there
	summed []api.Hashed
}

// New is a log of nothing.
func New() *Log { return &Log{made: true} }

// Sum is the sum of b, which stands in the log from then on.
func (l *Log) Sum(b []byte) api.Hash {
	sum := sha.Sum(b)
	if l.isThere() {
		l.summed = append(l.summed, api.Hashed{Bytes: bytes.Clone(b), Sum: sum})
	}
	return sum
}

// List is all that was summed, in order.
func (l *Log) List() []api.Hashed {
	if !l.isThere() {
		return nil
	}
	list := make([]api.Hashed, 0, len(l.summed))
	for _, entry := range l.summed {
		list = append(list, api.Hashed{Bytes: bytes.Clone(entry.Bytes), Sum: entry.Sum})
	}
	return list
}

func (l *Log) isThere() bool { return l != nil && l.made }
