// Package wire is layer 1, a canonical encoding as text: see shared/doc/01-wire.md.
package wire

import (
	"strconv"
	"strings"
)

// longest is the number of bytes of the longest int and the byte after it.
const longest = 21

// Num returns the encoding of an int as a number.
func Num(n int) string {
	if n < 0 {
		return ""
	}
	return Int(n)
}

// Int returns the encoding of an int.
func Int(n int) string { return strconv.Itoa(n) + ";" }

// Text returns the encoding of a string.
func Text(s string) string { return strconv.Itoa(len(s)) + ":" + s + "," }

// Nums returns the encoding of a list of ints.
func Nums(l []int) string { return list(l, Int) }

// Texts returns the encoding of a list of strings.
func Texts(l []string) string { return list(l, Text) }

func list[T any](l []T, one func(T) string) string {
	var b strings.Builder
	b.WriteString(strconv.Itoa(len(l)))
	b.WriteByte('[')
	for _, v := range l {
		b.WriteString(one(v))
	}
	b.WriteByte(']')
	return b.String()
}

// Reader reads values.
type Reader struct {
	rest   string
	failed bool
}

// Open returns a reader of a string.
func Open(s string) *Reader { return &Reader{rest: s} }

func (r *Reader) fail() {
	r.rest, r.failed = "", true
}

// until reads the canonical digits of an int, and the byte end after them.
func (r *Reader) until(end byte) (int, bool) {
	head := r.rest[:min(len(r.rest), longest)]
	at := strings.IndexByte(head, end)
	if at < 0 {
		r.fail()
		return 0, false
	}
	n, err := strconv.Atoi(head[:at])
	if err != nil || strconv.Itoa(n) != head[:at] {
		r.fail()
		return 0, false
	}
	r.rest = r.rest[at+1:]
	return n, true
}

// size reads an int that is not negative, and the byte end after it.
func (r *Reader) size(end byte) (int, bool) {
	n, ok := r.until(end)
	if ok && n < 0 {
		r.fail()
		return 0, false
	}
	return n, ok
}

// Num reads a number.
func (r *Reader) Num() int {
	n, _ := r.size(';')
	return n
}

// Int reads an int.
func (r *Reader) Int() int {
	n, _ := r.until(';')
	return n
}

// Text reads a string.
func (r *Reader) Text() string {
	n, ok := r.size(':')
	if !ok {
		return ""
	}
	if n >= len(r.rest) || r.rest[n] != ',' {
		r.fail()
		return ""
	}
	s := r.rest[:n]
	r.rest = r.rest[n+1:]
	return s
}

// Nums reads a list of ints.
func (r *Reader) Nums() []int { return readList(r, r.Int) }

// Texts reads a list of strings.
func (r *Reader) Texts() []string { return readList(r, r.Text) }

func readList[T any](r *Reader, one func() T) []T {
	n, ok := r.size('[')
	if !ok {
		return nil
	}
	var l []T
	for range n {
		v := one()
		if r.failed {
			return nil
		}
		l = append(l, v)
	}
	if r.rest == "" || r.rest[0] != ']' {
		r.fail()
		return nil
	}
	r.rest = r.rest[1:]
	return l
}

// Rest returns the bytes that have not been read, and moves the reader to the end.
func (r *Reader) Rest() string {
	s := r.rest
	r.rest = ""
	return s
}

// Left returns the number of bytes that have not been read.
func (r *Reader) Left() int { return len(r.rest) }

// Done reports whether everything was read.
func (r *Reader) Done() bool { return !r.failed && r.rest == "" }
