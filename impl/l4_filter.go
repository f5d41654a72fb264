package impl

// FilterNone is the filter that predicts 0.
const FilterNone = 0

// FilterLeft is the filter that predicts the left neighbour.
const FilterLeft = 1

// FilterUp is the filter that predicts the upper neighbour.
const FilterUp = 2

// FilterMean is the filter that predicts the mean of both neighbours.
const FilterMean = 3

// FilterPaeth is the filter that predicts the nearest one of three neighbours.
const FilterPaeth = 4

// predictor tells a number by its neighbours.
type predictor func(left int, up int, corner int) int

// predictorOf returns the predictor of a kind, and whether there is one.
func predictorOf(kind int) (predictor, bool) {
	table := [...]predictor{
		FilterNone:  predictNone,
		FilterLeft:  predictLeft,
		FilterUp:    predictUp,
		FilterMean:  predictMean,
		FilterPaeth: predictPaeth,
	}
	if !inRange(kind, 0, len(table)-1) {
		return nil, false
	}
	return table[kind], true
}

func predictNone(left int, up int, corner int) int {
	return 0
}

func predictLeft(left int, up int, corner int) int {
	return left
}

func predictUp(left int, up int, corner int) int {
	return up
}

func predictMean(left int, up int, corner int) int {
	return (left + up) / 2
}

func predictPaeth(left int, up int, corner int) int {
	aim := left + up - corner
	best := left
	for _, n := range [...]int{up, corner} {
		if distance(n, aim) < distance(best, aim) {
			best = n
		}
	}
	return best
}

// distance returns the absolute difference of two numbers.
func distance(a int, b int) int {
	if a < b {
		return b - a
	}
	return a - b
}

// neighbours returns the left, upper and corner neighbours of number i of a
// row. It reads only earlier numbers of the row, so that a row that is being
// restored may be given.
func neighbours(row []int, before []int, i int, step int) (int, int, int) {
	if i < step {
		return 0, before[i], 0
	}
	return row[i-step], before[i], before[i-step]
}

// wrap returns a number modulo 256, not negative for negative ones as well,
// which the operator % does not give.
func wrap(n int) int {
	return n & maxNumber
}

// validRows reports whether a row can be filtered behind another one.
func validRows(list []int, before []int, step int) bool {
	return len(list) <= MaxRow && len(before) == len(list) && inRange(step, 1, MaxPlanes) &&
		areBytes(list) && areBytes(before)
}

// filterCost returns the sum over a filtered row, where each number counts as
// its distance from 0 modulo 256.
func filterCost(list []int) int {
	sum := 0
	for _, n := range list {
		sum += min(n, maxNumber+1-n)
	}
	return sum
}

// FilterRow returns a filtered row.
func FilterRow(kind int, list []int, before []int, step int) []int {
	predict, ok := predictorOf(kind)
	if !ok || !validRows(list, before, step) {
		return nil
	}
	row := make([]int, len(list))
	for i, n := range list {
		row[i] = wrap(n - predict(neighbours(list, before, i, step)))
	}
	return row
}

// UnfilterRow returns the row of a filtered row.
func UnfilterRow(kind int, list []int, before []int, step int) []int {
	predict, ok := predictorOf(kind)
	if !ok || !validRows(list, before, step) {
		return nil
	}
	row := make([]int, len(list))
	for i, n := range list {
		row[i] = wrap(n + predict(neighbours(row, before, i, step)))
	}
	return row
}

// BestFilter returns the best kind of filter.
func BestFilter(list []int, before []int, step int) int {
	if !validRows(list, before, step) {
		return -1
	}
	best := FilterNone
	least := filterCost(FilterRow(best, list, before, step))
	for kind := FilterLeft; kind <= FilterPaeth; kind++ {
		cost := filterCost(FilterRow(kind, list, before, step))
		if cost < least {
			best, least = kind, cost
		}
	}
	return best
}
