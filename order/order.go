// Package order: maps gone through in the order of their keys.
package order

import (
	"cmp"
	"iter"
	"maps"
	"slices"
)

// ByKeys walks through what is in a map when the walk is begun, the lowest key first: what is told, or written, must not hang on the order that a map has.
func ByKeys[K cmp.Ordered, V any](m map[K]V) iter.Seq2[K, V] {
	return func(yield func(key K, value V) bool) {
		keys := slices.Sorted(maps.Keys(m))
		// All values are taken ahead, since whoever walks may call what turns the map.
		var values []V
		for _, key := range keys {
			values = append(values, m[key])
		}
		for i, key := range keys {
			if !yield(key, values[i]) {
				return
			}
		}
	}
}
