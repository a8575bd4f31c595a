// Package disk: see ../../shared/doc/01-disk.md.
package disk

import (
	"slices"
	"strings"

	"wastebook/api"
)

// Fit is a text as a block: cut, or filled up with noughts.
func Fit(s string) string {
	if len(s) >= api.Size {
		return s[:api.Size]
	}
	return s + strings.Repeat("\x00", api.Size-len(s))
}

// New is a disk of noughts.
func New() api.Disk {
	return api.Disk{Safe: slices.Repeat([]string{Fit("")}, api.Total)}
}

// Good is whether a disk is one.
func Good(d api.Disk) bool {
	if len(d.Safe) != api.Total || len(d.Writes) > api.MaxWrite {
		return false
	}
	for _, s := range d.Safe {
		if !fits(s) {
			return false
		}
	}
	for _, w := range d.Writes {
		if !isPlace(w.At) || !fits(w.Text) {
			return false
		}
	}
	return true
}

// Read is a block as it is.
func Read(d api.Disk, n int) (string, api.Errno) {
	if !Good(d) || !isPlace(n) {
		return "", api.ErrRange
	}
	return last(d, n), api.OK
}

// Put is the disk with a block written, that is not safe yet.
func Put(d api.Disk, n int, s string) (api.Disk, api.Errno) {
	switch {
	case !Good(d) || !isPlace(n):
		return d, api.ErrRange
	case !fits(s):
		return d, api.ErrForm
	case len(d.Writes) == api.MaxWrite:
		return d, api.ErrFull
	}
	// Copied ahead of appending: the spare room of the list that came in is its owner's.
	writes := append(slices.Clone(d.Writes), api.Write{At: n, Text: s})
	return api.Disk{Safe: slices.Clone(d.Safe), Writes: writes}, api.OK
}

// Flush is the disk with all of it safe.
func Flush(d api.Disk) (api.Disk, api.Errno) {
	if !Good(d) {
		return d, api.ErrRange
	}
	safe := make([]string, api.Total)
	for n := range safe {
		safe[n] = last(d, n)
	}
	return api.Disk{Safe: safe}, api.OK
}

// Crash is the disk when the power comes back: each block is as it was safe, or as one of its writes has it, as a draw says.
func Crash(d api.Disk, draw int) (api.Disk, api.Errno) {
	if !Good(d) || draw < 0 {
		return d, api.ErrRange
	}
	safe := make([]string, api.Total)
	for n := range safe {
		texts := choices(d, n)
		safe[n] = texts[draw%len(texts)]
		draw /= len(texts)
	}
	return api.Disk{Safe: safe}, api.OK
}

func isPlace(n int) bool { return 0 <= n && n < api.Total }

func fits(s string) bool { return len(s) == api.Size }

// last goes from the end, so that the first write that it meets is the one that holds.
func last(d api.Disk, n int) string {
	for i := len(d.Writes) - 1; i >= 0; i-- {
		if d.Writes[i].At == n {
			return d.Writes[i].Text
		}
	}
	return d.Safe[n]
}

// choices keeps texts that are alike apart: each write is a way of its own, and a draw counts ways.
func choices(d api.Disk, n int) []string {
	texts := []string{d.Safe[n]}
	for _, w := range d.Writes {
		if w.At == n {
			texts = append(texts, w.Text)
		}
	}
	return texts
}
