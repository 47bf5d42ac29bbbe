// Package shape: dims and places: see ../../shared/doc/01-shape.md.
package shape

import (
	"slices"

	"gradus/api"
)

// naught is the rune of a dim of 0: no dim is above 9, so one rune is enough for each,
// and a rune's place in the text is its dim's place in the list.
const naught = '0'

// spell tells dims that may be as a text, a rune a dim: a text is a value,
// so what was looked at once stays as it was and is compared whole.
func spell(d []int) (string, api.Errno) {
	text, cells := "", 1
	// The length stands ahead of the product, which so cannot wrap around.
	if len(d) < 1 || len(d) > api.MaxDims {
		goto bad
	}
	for _, n := range d {
		if n < 1 || n > api.MaxDim {
			goto bad
		}
		cells *= n
		text += string(naught + rune(n))
	}
	if cells > api.MaxCells {
		goto bad
	}
	return text, api.OK
bad:
	return "", api.ErrForm
}

// size is the dim that a rune of a spelled text stands for.
func size(r rune) int { return int(r - naught) }

// Check tells ErrForm, unless d are dims that may be.
func Check(d []int) api.Errno {
	_, err := spell(d)
	return err
}

// Cells tells how many numbers a tensor of dims d has.
func Cells(d []int) (int, api.Errno) {
	text, err := spell(d)
	if err != api.OK {
		return 0, err
	}
	cells := 1
	for _, r := range text {
		cells *= size(r)
	}
	return cells, api.OK
}

// Steps tells for each dim how far one more of it is in Data.
func Steps(d []int) ([]int, api.Errno) {
	text, err := spell(d)
	if err != api.OK {
		return nil, err
	}
	steps := make([]int, len(d))
	for i, r := range text {
		// Each dim further on lies within all those ahead of it.
		for k := range i {
			steps[k] *= size(r)
		}
		steps[i] = 1
	}
	return steps, api.OK
}

// At tells the place in Data of the numbers p.
func At(d []int, p []int) (int, api.Errno) {
	at := 0
	text, err := spell(d)
	if err != api.OK || len(p) != len(d) {
		goto bad
	}
	for i, r := range text {
		if p[i] < 0 || p[i] >= size(r) {
			goto bad
		}
		at = at*size(r) + p[i]
	}
	return at, api.OK
bad:
	return 0, api.ErrForm
}

// Where tells the numbers of the place n in Data.
func Where(d []int, n int) ([]int, api.Errno) {
	cells, err := Cells(d)
	if err != api.OK || n < 0 || n >= cells {
		return nil, api.ErrForm
	}
	// Dims that have cells have steps.
	steps, _ := Steps(d)
	p := make([]int, len(d))
	for i, step := range steps {
		p[i] = n / step
		n %= step
	}
	return p, api.OK
}

// Same tells whether two dims that may be are the same.
func Same(a []int, b []int) (bool, api.Errno) {
	first, err := spell(a)
	if err != api.OK {
		return false, err
	}
	second, err := spell(b)
	if err != api.OK {
		return false, err
	}
	return first == second, api.OK
}

// Tensor tells ErrForm, unless t is a tensor that may be.
func Tensor(t api.Tensor) api.Errno {
	cells, err := Cells(t.Dims)
	if err != api.OK || len(t.Data) != cells {
		return api.ErrForm
	}
	return api.OK
}

// Fill tells a tensor of dims d with n everywhere.
func Fill(d []int, n int) (api.Tensor, api.Errno) {
	cells, err := Cells(d)
	if err != api.OK {
		return api.Tensor{}, err
	}
	data := make([]int, cells)
	for i := range data {
		data[i] = n
	}
	return api.Tensor{Dims: slices.Clone(d), Data: data}, api.OK
}

// Wider tells ErrDims, unless a can be laid out over b: as many dims, each of a that of b, or 1.
func Wider(a []int, b []int) api.Errno {
	if Check(a) != api.OK || Check(b) != api.OK {
		return api.ErrForm
	}
	if len(a) != len(b) {
		goto apart
	}
	for i, n := range a {
		if n != b[i] && n != 1 {
			goto apart
		}
	}
	return api.OK
apart:
	return api.ErrDims
}
