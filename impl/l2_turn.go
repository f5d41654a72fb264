package impl

// source tells which old place comes to column x and row y.
type source func(x int, y int) (int, int)

// rearrange returns the grid of a width and a height whose cells come from
// the places of another one that a source tells.
func rearrange[T any](g grid[T], width int, height int, from source) grid[T] {
	return buildGrid(width, height, func(x int, y int) T { return g.at(from(x, y)) })
}

// mirror returns a grid with its columns in reverse order.
func mirror[T any](g grid[T]) grid[T] {
	return rearrange(g, g.width, g.height, func(x int, y int) (int, int) { return g.width - 1 - x, y })
}

// turnRight returns a grid turned to the right by a quarter.
func turnRight[T any](g grid[T]) grid[T] {
	return rearrange(g, g.height, g.width, func(x int, y int) (int, int) { return y, g.height - 1 - x })
}

// transpose returns a grid with columns and rows exchanged.
func transpose[T any](g grid[T]) grid[T] {
	return rearrange(g, g.height, g.width, func(x int, y int) (int, int) { return y, x })
}

// changeNumbers returns a valid image in which each number is replaced by what
// a function makes of it.
func changeNumbers(m Image, change func(n int) int) Image {
	data := make([]int, len(m.Data))
	for i, n := range m.Data {
		data[i] = change(n)
	}
	return Image{Width: m.Width, Height: m.Height, Planes: m.Planes, Data: data}
}

// MirrorImage returns an image with its columns in reverse order.
func MirrorImage(m Image) Image {
	if !ValidImage(m) {
		return Image{}
	}
	return imageOf(mirror(gridOf(m)), m.Planes)
}

// TurnImage returns an image turned by quarters.
func TurnImage(m Image, k int) Image {
	if !ValidImage(m) || !inRange(k, 0, 3) {
		return Image{}
	}
	g := gridOf(m)
	for range k {
		g = turnRight(g)
	}
	return imageOf(g, m.Planes)
}

// TransposeImage returns an image with columns and rows exchanged.
func TransposeImage(m Image) Image {
	if !ValidImage(m) {
		return Image{}
	}
	return imageOf(transpose(gridOf(m)), m.Planes)
}

// InvertImage returns an image with inverted numbers.
func InvertImage(m Image) Image {
	if !ValidImage(m) {
		return Image{}
	}
	return changeNumbers(m, func(n int) int { return maxNumber - n })
}
