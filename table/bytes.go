package table

import (
	"strings"

	"sentry/api"
)

// Bytes is for a right table: all its numbers fit into bytes.
func Bytes(t api.Table) string {
	b := []byte{'S', 1, byte(len(t.Acts))}
	for _, a := range t.Acts {
		b = append(b, byte(len(a)))
		b = append(b, a...)
	}
	b = append(b, byte(len(t.Next)))
	for s, row := range t.Next {
		b = append(b, byte(t.Flags[s]))
		for _, next := range row {
			b = append(b, byte(next))
		}
	}
	n := sum(b)
	return string(append(b, byte(n>>8), byte(n)))
}

func sum(b []byte) int {
	n := 3
	for _, c := range b {
		n = (n*251 + int(c) + 1) % 65521
	}
	return n
}

// Read tells false if these are not the bytes of a right table. What it reads it writes again: so no byte needs a check of its own.
func Read(b string) (api.Table, bool) {
	if len(b) > api.MaxTable {
		return api.Table{}, false
	}
	r := reader{rest: b}
	t := r.table()
	if !Right(t) || Bytes(t) != b {
		return api.Table{}, false
	}
	return t, true
}

// reader takes bytes away from the front; where there are none left it gives zeros and empty texts.
type reader struct {
	rest string
}

func (r *reader) table() api.Table {
	r.text(len("S\x01"))
	var t api.Table
	for range r.number() {
		t.Acts = append(t.Acts, r.text(r.number()))
	}
	for range r.number() {
		t.Flags = append(t.Flags, r.number())
		t.Next = append(t.Next, r.numbers(len(t.Acts)))
	}
	return t
}

func (r *reader) number() int {
	if r.rest == "" {
		return 0
	}
	n := int(r.rest[0])
	r.rest = r.rest[1:]
	return n
}

func (r *reader) numbers(count int) []int {
	out := make([]int, count)
	for i := range out {
		out[i] = r.number()
	}
	return out
}

// text gives a copy: a piece of the bytes would keep all of them in memory.
func (r *reader) text(length int) string {
	n := min(length, len(r.rest))
	s := strings.Clone(r.rest[:n])
	r.rest = r.rest[n:]
	return s
}
