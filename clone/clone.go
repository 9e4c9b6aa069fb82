// Package clone copies chunks, so that what is answered shares nothing with what is kept or was handed in.
package clone

import (
	"slices"

	"crossway/api"
)

// Chunk is a chunk whose lists are its own.
func Chunk(c api.Chunk) api.Chunk {
	c.Params = slices.Clone(c.Params)
	c.Causes = slices.Clone(c.Causes)
	c.Gaps = slices.Clone(c.Gaps)
	c.Dups = slices.Clone(c.Dups)
	return c
}

// Chunks is such chunks.
func Chunks(l []api.Chunk) []api.Chunk {
	var copies []api.Chunk
	for _, c := range l {
		copies = append(copies, Chunk(c))
	}
	return copies
}
