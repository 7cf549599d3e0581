package effort

import (
	"maps"
	"slices"

	"harrier/api"
	"harrier/quant"
)

// A Book keeps curves by names; all have its sizes.
type Book struct {
	sizes  []int
	curves map[string][]api.Best
}

// NewBook returns a book of some sizes, without curves.
func NewBook(sizes []int) (*Book, api.Errno) {
	if e := CheckSizes(sizes); e != api.OK {
		return nil, e
	}
	return &Book{slices.Clone(sizes), map[string][]api.Best{}}, api.OK
}

// Add adds a curve by a name.
func (b *Book) Add(name string, c []api.Best) api.Errno {
	if !quant.IsName(name) {
		return api.ErrName
	}
	if e := CheckCurve(c); e != api.OK {
		return e
	}
	if !slices.Equal(sizesOf(c), b.sizes) {
		return api.ErrForm
	}
	if _, ok := b.curves[name]; ok {
		return api.ErrTwice
	}
	if len(b.curves) == MaxBook {
		return api.ErrSize
	}
	b.curves[name] = slices.Clone(c)
	return api.OK
}

// Remove takes the curve with a name away.
func (b *Book) Remove(name string) api.Errno {
	if _, ok := b.curves[name]; !ok {
		return api.ErrNone
	}
	delete(b.curves, name)
	return api.OK
}

// Names returns the names of the curves.
func (b *Book) Names() []string {
	names := slices.Collect(maps.Keys(b.curves))
	return inOrder(names, func(name string) string { return name })
}

// Holders returns who is best at each size, of equally good ones the one with the least name.
func (b *Book) Holders() []api.Holder {
	best := make([]api.Best, len(b.sizes))
	holder := make([]string, len(b.sizes))
	for _, name := range b.Names() {
		for i, x := range b.curves[name] {
			if isBetter(x, best[i]) {
				best[i], holder[i] = x, name
			}
		}
	}
	var list []api.Holder
	for i, x := range best {
		if x.Found {
			list = append(list, api.Holder{Size: x.Size, Sum: x.Sum, At: x.At, Name: holder[i]})
		}
	}
	return list
}

// Rank returns how many are better at a size than the one with a name, if that one has a window of it.
func (b *Book) Rank(size int, name string) (int, bool, api.Errno) {
	i, ok := slices.BinarySearch(b.sizes, size)
	if !ok {
		return 0, false, api.ErrNone
	}
	curve, ok := b.curves[name]
	if !ok {
		return 0, false, api.ErrNone
	}
	mine := curve[i]
	if !mine.Found {
		return 0, false, api.OK
	}
	rank := 0
	for other, c := range b.curves {
		isEqual := !isBetter(c[i], mine) && !isBetter(mine, c[i])
		if isBetter(c[i], mine) || isEqual && other < name {
			rank++
		}
	}
	return rank, true, api.OK
}
