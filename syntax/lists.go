package syntax

import (
	"iter"
	"slices"
	"strings"

	"ratchet/api"
)

// each yields what is made of each item of a list.
func each[T, U any](items []T, of func(item T) U) iter.Seq[U] {
	return func(yield func(made U) bool) {
		for _, item := range items {
			if !yield(of(item)) {
				return
			}
		}
	}
}

// chained yields the items of one list after the other.
func chained[T any](lists ...iter.Seq[T]) iter.Seq[T] {
	return func(yield func(item T) bool) {
		for _, list := range lists {
			for item := range list {
				if !yield(item) {
					return
				}
			}
		}
	}
}

// mapped is what is made of each item of a list.
func mapped[T, U any](items []T, of func(item T) U) []U {
	return slices.Collect(each(items, of))
}

// joined is the texts of items, with a sign between them.
func joined[T any](items []T, sign string, textOf func(item T) string) string {
	return strings.Join(mapped(items, textOf), sign)
}

// firstWrong is the error of the first item that has one.
func firstWrong[T any](items []T, errorOf func(item T) api.Errno) api.Errno {
	for _, item := range items {
		if e := errorOf(item); e != api.OK {
			return e
		}
	}
	return api.OK
}

// firstError is the first error of a list in the order in which a promise lists them.
func firstError(list ...api.Errno) api.Errno {
	for _, e := range list {
		if e != api.OK {
			return e
		}
	}
	return api.OK
}

func errorIf(wrong bool, e api.Errno) api.Errno {
	if wrong {
		return e
	}
	return api.OK
}
