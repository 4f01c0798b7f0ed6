package player

import (
	"lustrum/allen"
	"lustrum/api"
	"lustrum/denote"
	"lustrum/narrow"
	"lustrum/print"
	"lustrum/relate"
	"lustrum/shelf"
)

// The commands: each is given the words that it asks for, and the rest.

func put(s api.Shelf, words []string, rest string) (api.Shelf, string) {
	n, fault := parsed(rest)
	if fault != "" {
		return s, fault
	}
	more, errno := shelf.Put(s, words[0], n)
	if errno != api.OK {
		return s, failed(errno)
	}
	return more, show(more, words, "")
}

func drop(s api.Shelf, words []string, _ string) (api.Shelf, string) {
	less, errno := shelf.Drop(s, words[0])
	if errno != api.OK {
		return s, failed(errno)
	}
	return less, "ok"
}

func show(s api.Shelf, words []string, _ string) string {
	n, errno := shelf.Get(s, words[0])
	if errno != api.OK {
		return failed(errno)
	}
	return print.Text(n)
}

func list(s api.Shelf, _ []string, _ string) string {
	return joined(shelf.Names(s))
}

func days(s api.Shelf, words []string, _ string) string {
	l, errno := meaning(s, words[0])
	if errno != api.OK {
		return failed(errno)
	}
	return dates(l)
}

func on(s api.Shelf, words []string, _ string) string {
	day, ok := dayOf(words[0])
	if !ok {
		return failed(api.ErrPoint)
	}
	possible, certain := shelf.On(s, day)
	return joined(possible) + " | " + joined(certain)
}

func may(s api.Shelf, words []string, rest string) string {
	return found(s, words[0], rest, false)
}

func must(s api.Shelf, words []string, rest string) string {
	return found(s, words[0], rest, true)
}

// found is the names of those that may, or must, stand in a relation to an expression.
func found(s api.Shelf, relation, rest string, inEachWay bool) string {
	r, ok := allen.Named(relation)
	if !ok {
		return failed(api.ErrWord)
	}
	n, fault := parsed(rest)
	if fault != "" {
		return fault
	}
	names, errno := shelf.Find(s, n, 1<<r, inEachWay)
	if errno != api.OK {
		return failed(errno)
	}
	return joined(names)
}

func related(s api.Shelf, words []string, _ string) string {
	l, errno := meaning(s, words[0])
	if errno != api.OK {
		return failed(errno)
	}
	m, errno := meaning(s, words[1])
	if errno != api.OK {
		return failed(errno)
	}
	mask, errno := relate.Relations(l, m)
	if errno != api.OK {
		return failed(errno)
	}
	return joined(relationNames(mask))
}

func narrowed(s api.Shelf, words []string, rest string) string {
	l, errno := meaning(s, words[0])
	if errno != api.OK {
		return failed(errno)
	}
	n, fault := parsed(rest)
	if fault != "" {
		return fault
	}
	m, errno := denote.Of(n)
	if errno != api.OK {
		return failed(errno)
	}
	left, errno := narrow.Narrow(l, m)
	if errno != api.OK {
		return failed(errno)
	}
	return dates(left)
}

// meaning is what the expression of a name means.
func meaning(s api.Shelf, name string) ([]api.Leaf, api.Errno) {
	n, errno := shelf.Get(s, name)
	if errno != api.OK {
		return nil, errno
	}
	return denote.Of(n)
}
