package impl

// MaxSide is the largest width and height of an image.
const MaxSide = 16

// MaxPlanes is the largest number of planes.
const MaxPlanes = 4

// maxNumber is the largest number of a pixel, a byte or a row.
const maxNumber = 255

// Image is an image with its pixels row by row.
type Image struct {
	Width  int
	Height int
	Planes int
	Data   []int
}

// Box is a rectangle of pixels.
type Box struct {
	X      int
	Y      int
	Width  int
	Height int
}

// color is the numbers of a pixel. It is an array, so that a copy of a cell
// shares no memory; planes that the image does not have stay 0.
type color [MaxPlanes]int

// grid is a rectangle of cells, row by row from the upper left one on.
type grid[T any] struct {
	width  int
	height int
	cells  []T
}

// buildGrid returns the grid whose cells a function tells.
func buildGrid[T any](width int, height int, cell func(x int, y int) T) grid[T] {
	cells := make([]T, 0, width*height)
	for y := range height {
		for x := range width {
			cells = append(cells, cell(x, y))
		}
	}
	return grid[T]{width, height, cells}
}

// buildPart returns the cells in a box of a whole whose cells a function tells.
func buildPart[T any](b Box, cell func(x int, y int) T) grid[T] {
	return buildGrid(b.Width, b.Height, func(x int, y int) T { return cell(b.X+x, b.Y+y) })
}

// has reports whether there is a cell in column x and row y.
func (g grid[T]) has(x int, y int) bool {
	return inRange(x, 0, g.width-1) && inRange(y, 0, g.height-1)
}

// at returns the cell in column x and row y, which must be there.
func (g grid[T]) at(x int, y int) T {
	return g.cells[y*g.width+x]
}

// set replaces the cell in column x and row y, which must be there.
func (g grid[T]) set(x int, y int, cell T) {
	g.cells[y*g.width+x] = cell
}

// paste replaces the cells from column x and row y on by those of a part, as
// far as they are there.
func (g grid[T]) paste(x int, y int, part grid[T]) {
	for row := range part.height {
		for column := range part.width {
			if g.has(x+column, y+row) {
				g.set(x+column, y+row, part.at(column, row))
			}
		}
	}
}

// gridOf returns the pixels of a valid image.
func gridOf(m Image) grid[color] {
	return buildGrid(m.Width, m.Height, func(x int, y int) color {
		first := (y*m.Width + x) * m.Planes
		return colorOf(m.Data[first : first+m.Planes])
	})
}

// imageOf returns the image of pixels with a number of planes.
func imageOf(g grid[color], planes int) Image {
	data := make([]int, 0, len(g.cells)*planes)
	for _, c := range g.cells {
		data = append(data, c[:planes]...)
	}
	return Image{Width: g.width, Height: g.height, Planes: planes, Data: data}
}

// planeOf returns the numbers of one plane of a valid image.
func planeOf(m Image, plane int) grid[int] {
	return buildGrid(m.Width, m.Height, func(x int, y int) int {
		return m.Data[(y*m.Width+x)*m.Planes+plane]
	})
}

// joinPlanes returns the image of planes, at least one, of the same shape.
func joinPlanes(list ...grid[int]) Image {
	first := list[0]
	data := make([]int, 0, len(first.cells)*len(list))
	for i := range first.cells {
		for _, g := range list {
			data = append(data, g.cells[i])
		}
	}
	return Image{Width: first.width, Height: first.height, Planes: len(list), Data: data}
}

// colorOf returns the color with at most MaxPlanes numbers.
func colorOf(pixel []int) color {
	var c color
	copy(c[:], pixel)
	return c
}

// pixelOf returns the numbers of a color with a number of planes. The color
// is a copy of its own, so that no two pixels share memory.
func pixelOf(c color, planes int) []int {
	return c[:planes:planes]
}

// divideDown returns a quotient rounded down, also for a negative number,
// which the operator / rounds up. The divisor is at least 1.
func divideDown(n int, divisor int) int {
	quotient := n / divisor
	if n%divisor < 0 {
		quotient--
	}
	return quotient
}

// divideNearest returns a quotient rounded to the nearest number, halves up.
// The divisor is at least 1.
func divideNearest(n int, divisor int) int {
	return divideDown(2*n+divisor, 2*divisor)
}

// square returns a number times itself.
func square(n int) int {
	return n * n
}

// inRange reports whether a number is in low..high.
func inRange(n int, low int, high int) bool {
	return low <= n && n <= high
}

// areBytes reports whether all numbers are in 0..255.
func areBytes(list []int) bool {
	for _, n := range list {
		if !inRange(n, 0, maxNumber) {
			return false
		}
	}
	return true
}

// validShape reports whether an image may have these sides and planes.
func validShape(width int, height int, planes int) bool {
	return inRange(width, 1, MaxSide) && inRange(height, 1, MaxSide) && inRange(planes, 1, MaxPlanes)
}

// validPixel reports whether numbers are a pixel with a number of planes.
func validPixel(pixel []int, planes int) bool {
	return len(pixel) == planes && areBytes(pixel)
}

// hasPlace reports whether a pixel of an image is in column x and row y.
func hasPlace(m Image, x int, y int) bool {
	return inRange(x, 0, m.Width-1) && inRange(y, 0, m.Height-1)
}

// isNear reports whether column x and row y are places to which an image, a
// layer or a region may be moved.
func isNear(x int, y int) bool {
	return inRange(x, -MaxSide, MaxSide) && inRange(y, -MaxSide, MaxSide)
}

// fitsBox reports whether a box has pixels, and all of them in columns and
// rows from 0 on, so many of them. It compares sides with what is left,
// because the sum of place and side might overflow.
func fitsBox(b Box, width int, height int) bool {
	return inRange(b.X, 0, width-1) && inRange(b.Width, 1, width-b.X) &&
		inRange(b.Y, 0, height-1) && inRange(b.Height, 1, height-b.Y)
}

// hasBox reports whether all pixels of a box are on an image.
func hasBox(m Image, b Box) bool {
	return fitsBox(b, m.Width, m.Height)
}

// ValidImage reports whether an image is valid.
func ValidImage(m Image) bool {
	return validShape(m.Width, m.Height, m.Planes) &&
		len(m.Data) == m.Width*m.Height*m.Planes && areBytes(m.Data)
}

// validPlane reports whether an image is valid and has one plane.
func validPlane(m Image) bool {
	return ValidImage(m) && m.Planes == 1
}

// FillImage returns an image with equal pixels.
func FillImage(width int, height int, pixel []int) Image {
	planes := len(pixel)
	if !validShape(width, height, planes) || !validPixel(pixel, planes) {
		return Image{}
	}
	c := colorOf(pixel)
	return imageOf(buildGrid(width, height, func(x int, y int) color { return c }), planes)
}

// PixelAt returns the numbers of a pixel.
func PixelAt(m Image, x int, y int) []int {
	if !ValidImage(m) || !hasPlace(m, x, y) {
		return nil
	}
	return pixelOf(gridOf(m).at(x, y), m.Planes)
}

// SetPixel returns an image in which a pixel has given numbers.
func SetPixel(m Image, x int, y int, pixel []int) (Image, bool) {
	if !ValidImage(m) || !hasPlace(m, x, y) || !validPixel(pixel, m.Planes) {
		return Image{}, false
	}
	g := gridOf(m)
	g.set(x, y, colorOf(pixel))
	return imageOf(g, m.Planes), true
}

// CropImage returns a part of an image.
func CropImage(m Image, b Box) (Image, bool) {
	if !ValidImage(m) || !hasBox(m, b) {
		return Image{}, false
	}
	return imageOf(buildPart(b, gridOf(m).at), m.Planes), true
}

// PasteImage returns an image with another one over a part of it.
func PasteImage(m Image, x int, y int, part Image) (Image, bool) {
	if !ValidImage(m) || !ValidImage(part) || m.Planes != part.Planes || !isNear(x, y) {
		return Image{}, false
	}
	g := gridOf(m)
	g.paste(x, y, gridOf(part))
	return imageOf(g, m.Planes), true
}
