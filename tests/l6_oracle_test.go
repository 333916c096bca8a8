package tests

import (
	"math"
	"math/big"
	"math/bits"
	"slices"
	"sync"

	"loop.example/g01126/impl"
)

// powerByWords takes 0 to the number 0 to be 1.
func powerByWords(x int, k int) int {
	if k == 0 {
		return 1
	}
	return x * powerByWords(x, k-1)
}

// componentsByWords returns the numbers of components of all pairs with n arches
// above, by the ranks of both systems.
func componentsByWords(n int) [][]int {
	var rows [][]int
	for _, top := range systemsByWords(n) {
		var row []int
		for _, bottom := range systemsByWords(n) {
			row = append(row, len(curvesByWords(impl.Meander{Top: top, Bottom: bottom})))
		}
		rows = append(rows, row)
	}
	return rows
}

func tableByWords(n int, x int) [][]int {
	rows := componentsByWords(n)
	for _, row := range rows {
		for c, k := range row {
			row[c] = powerByWords(x, k)
		}
	}
	return rows
}

func valueByWords(k int, x int) int {
	switch k {
	case 0:
		return 1
	case 1:
		return x
	}
	return x*valueByWords(k-1, x) - valueByWords(k-2, x)
}

// choicesByWords counts the choices of k of n things one by one.
func choicesByWords(n int, k int) int {
	count := 0
	for chosen := range uint(1) << n {
		if bits.OnesCount(chosen) == k {
			count++
		}
	}
	return count
}

func exponentByWords(n int, k int) int {
	return choicesByWords(2*n, n-k) - 2*choicesByWords(2*n, n-k-1) + choicesByWords(2*n, n-k-2)
}

func productByWords(n int, x int) *big.Int {
	product := big.NewInt(1)
	for k := 1; k <= n; k++ {
		for range exponentByWords(n, k) {
			product.Mul(product, big.NewInt(int64(valueByWords(k, x))))
		}
	}
	return product
}

// expandedByWords expands a determinant by its first row.
func expandedByWords(rows [][]int) int {
	if len(rows) == 0 {
		return 1
	}
	sum, sign := 0, 1
	for c, number := range rows[0] {
		var rest [][]int
		for _, row := range rows[1:] {
			rest = append(rest, append(slices.Clone(row[:c]), row[c+1:]...))
		}
		sum += sign * number * expandedByWords(rest)
		sign = -sign
	}
	return sum
}

func fractionsOf(rows [][]int) [][]*big.Rat {
	var all [][]*big.Rat
	for _, row := range rows {
		var fractions []*big.Rat
		for _, number := range row {
			fractions = append(fractions, big.NewRat(int64(number), 1))
		}
		all = append(all, fractions)
	}
	return all
}

// clearBelow takes multiples of a row from all rows behind it, so that they have 0
// in a column.
func clearBelow(rows [][]*big.Rat, k int, column int) {
	for _, row := range rows[k+1:] {
		times := new(big.Rat).Quo(row[column], rows[k][column])
		for c := range row {
			row[c].Sub(row[c], new(big.Rat).Mul(times, rows[k][c]))
		}
	}
}

// determinantByWords goes column by column with fractions, and exchanges rows.
func determinantByWords(rows [][]int) *big.Int {
	left := fractionsOf(rows)
	product := big.NewRat(1, 1)
	for k := range left {
		at := k
		for at < len(left) && left[at][k].Sign() == 0 {
			at++
		}
		if at == len(left) {
			return new(big.Int)
		}
		if at > k {
			left[k], left[at] = left[at], left[k]
			product.Neg(product)
		}
		product.Mul(product, left[k][k])
		clearBelow(left, k, k)
	}
	return product.Num()
}

// dependentByWords returns the indices of all rows that are sums of multiples of
// those before them, or all zeros: of these nothing is left when multiples of all
// rows before them have been taken from them.
func dependentByWords(rows [][]int) []int {
	var dependent []int
	left := fractionsOf(rows)
	for k, row := range left {
		column := slices.IndexFunc(row, func(f *big.Rat) bool { return f.Sign() != 0 })
		if column < 0 {
			dependent = append(dependent, k)
		} else {
			clearBelow(left, k, column)
		}
	}
	return dependent
}

// rankByMinors returns the size of the greatest part of the rows, of as many rows
// as columns, whose determinant is not 0.
func rankByMinors(rows [][]int) int {
	rank := 0
	for above := range uint(1) << len(rows) {
		for left := range uint(1) << len(rows) {
			size := bits.OnesCount(above)
			if size > rank && size == bits.OnesCount(left) && expandedByWords(partOf(rows, above, left)) != 0 {
				rank = size
			}
		}
	}
	return rank
}

func partOf(rows [][]int, chosenRows uint, chosenColumns uint) [][]int {
	var part [][]int
	for k, row := range rows {
		if chosenRows>>k&1 == 0 {
			continue
		}
		var chosen []int
		for c, number := range row {
			if chosenColumns>>c&1 == 1 {
				chosen = append(chosen, number)
			}
		}
		part = append(part, chosen)
	}
	return part
}

func areRowsByWords(rows [][]int) bool {
	limit := 16
	if len(rows) <= 5 {
		limit = 100
	}
	if len(rows) < 1 || len(rows) > 14 {
		return false
	}
	for _, row := range rows {
		if len(row) != len(rows) {
			return false
		}
		for _, number := range row {
			if number < -limit || number > limit {
				return false
			}
		}
	}
	return true
}

// joinedByWords cuts the arches at i and i + 1 and joins the ends that are open.
func joinedByWords(p []int, i int) ([]int, int) {
	joined := slices.Clone(p)
	if p[i] == i+1 {
		return joined, 1
	}
	var open []int
	for k, end := range p {
		if k != i && k != i+1 && (end == i || end == i+1) {
			open = append(open, k)
		}
	}
	joined[open[0]], joined[open[1]] = open[1], open[0]
	joined[i], joined[i+1] = i+1, i
	return joined, 0
}

func squareRows(size int, tell func(k, c int) int) [][]int {
	rows := make([][]int, size)
	for k := range rows {
		for c := range size {
			rows[k] = append(rows[k], tell(k, c))
		}
	}
	return rows
}

func sameNumbers(size int, number int) [][]int {
	return squareRows(size, func(k, c int) int { return number })
}

func diagonal(numbers ...int) [][]int {
	return squareRows(len(numbers), func(k, c int) int {
		if k == c {
			return numbers[k]
		}
		return 0
	})
}

// diagonalOf returns rows with the same number on all of the diagonal.
func diagonalOf(size int, number int) [][]int {
	return diagonal(slices.Repeat([]int{number}, size)...)
}

// withNumber returns the rows with one number replaced.
func withNumber(rows [][]int, k int, c int, number int) [][]int {
	return squareRows(len(rows), func(i, j int) int {
		if i == k && j == c {
			return number
		}
		return rows[i][j]
	})
}

// blocks puts rows behind each other along the diagonal.
func blocks(parts ...[][]int) [][]int {
	size := 0
	for _, part := range parts {
		size += len(part)
	}
	rows := sameNumbers(size, 0)
	from := 0
	for _, part := range parts {
		for k, row := range part {
			copy(rows[from+k][from:], row)
		}
		from += len(part)
	}
	return rows
}

// widest returns 2^level rows of 16 and -16 with the greatest determinant that
// there is.
func widest(level int) [][]int {
	return squareRows(1<<level, func(k, c int) int {
		return 16 - 32*(bits.OnesCount(uint(k&c))%2)
	})
}

// rowsWithDeterminant returns 14 rows with a determinant, which is at most 16
// times 17^13 and at least that below 0. The determinants of the first k rows and
// columns are 1, 16, 16 17, 16 17 17, .., and the determinant of all is the sum of
// these, times the numbers of the last column.
func rowsWithDeterminant(determinant int) [][]int {
	parts := []int{1, 16}
	for len(parts) < 14 {
		parts = append(parts, 17*parts[len(parts)-1])
	}
	left := max(determinant, -determinant)
	rows := squareRows(14, func(k, c int) int {
		switch {
		case c < k-1:
			return 0
		case c == k-1:
			return -1
		}
		return 16
	})
	for k := 13; k >= 0; k-- {
		rows[k][13] = left / parts[k]
		left %= parts[k]
	}
	if determinant < 0 {
		for c := range rows[0] {
			rows[0][c] = -rows[0][c]
		}
	}
	return rows
}

// scatter returns numbers in -limit..limit without an order that is easily seen,
// the same ones for the same seed.
func scatter(seed int, limit int) func() int {
	state := uint64(seed)*0x9e3779b97f4a7c15 + 1
	return func() int {
		state = state*6364136223846793005 + 1442695040888963407
		return int(state>>33%uint64(2*limit+1)) - limit
	}
}

func scattered(size int, limit int, seed int) [][]int {
	next := scatter(seed, limit)
	return squareRows(size, func(k, c int) int { return next() })
}

// depending returns rows in which some are sums of multiples of others, not always
// by whole numbers.
func depending(size int, seed int) [][]int {
	rows := scattered(size, 3, seed)
	next := scatter(seed+1000, size-1)
	k, i, j := (next()+size)%size, (next()+size)%size, (next()+size)%size
	for c := range size {
		switch seed % 4 {
		case 0:
			rows[k][c] = rows[i][c] + rows[j][c]
		case 1:
			rows[i][c], rows[k][c] = 2*rows[j][c], 3*rows[j][c]
		case 2:
			rows[k][c] = 0
		case 3:
			rows[i][c], rows[j][c] = 3*rows[k][c]-2*rows[i][c], 5*rows[k][c]
		}
	}
	return rows
}

// rowsToTry returns rows of all sizes, and all of one, and all small ones of two
// and three.
var rowsToTry = sync.OnceValue(func() [][][]int {
	var all [][][]int
	for number := -100; number <= 100; number++ {
		all = append(all, sameNumbers(1, number))
	}
	for _, list := range listsOf(4, -3, 3) {
		all = append(all, [][]int{list[:2], list[2:]})
	}
	for _, list := range listsOf(9, -1, 1) {
		all = append(all, [][]int{list[:3], list[3:6], list[6:]})
	}
	for size := 1; size <= 14; size++ {
		limit := 16
		if size <= 5 {
			limit = 100
		}
		all = append(all, sameNumbers(size, 0), sameNumbers(size, 1), sameNumbers(size, -limit), diagonalOf(size, limit))
		for seed := range 12 {
			all = append(all, depending(size, seed), scattered(size, 1, seed), scattered(size, 2, seed), scattered(size, limit, seed))
		}
	}
	return append(all, rowsOfNote()...)
})

// rowsOfNote returns rows with great determinants, some beyond what an int can
// hold, and others that are divided by primes with which one might count.
func rowsOfNote() [][][]int {
	twos := [][][]int{widest(1), widest(1), widest(1), widest(1), widest(1), widest(1), widest(1)}
	all := [][][]int{
		blocks(widest(3), widest(2), widest(1)),
		blocks(widest(3), widest(2)),
		blocks(widest(3), diagonalOf(5, 1)),
		blocks(twos...),
		blocks(append(slices.Clone(twos[1:]), diagonal(16, 8))...),
		blocks(append(slices.Clone(twos[1:]), diagonal(16, 0))...),
		blocks(diagonalOf(4, 0), widest(3)),
	}
	for _, number := range numbersOfNote() {
		all = append(all, rowsWithDeterminant(number), rowsWithDeterminant(-number))
	}
	for n := range 5 {
		for x := -2; x <= 2; x++ {
			all = append(all, tableByWords(n, x))
		}
	}
	return all
}

// numbersOfNote are determinants that a float does not tell from others, and
// products of primes and powers of them.
func numbersOfNote() []int {
	const limit = 100_000_000_000_000_000
	numbers := []int{0, 1, 2, 15, 16, 17, 1<<53 - 1, 1 << 53, 1<<53 + 1, 1 << 32, 1 << 48, 1 << 56, limit - 1, limit, limit + 1, limit + 1<<40, 158_000_000_000_000_000}
	primes := []int{32749, 32719, 32717, 32713, 32707, 32693, 65521, 65519, 46337, 1_000_003, 998_244_353, 1_000_000_007, 1_000_000_009, math.MaxInt32, math.MaxInt32 - 18, math.MaxInt32 - 60, 4_294_967_291}
	for i, p := range primes {
		numbers = append(numbers, p)
		for j, q := range primes[:i+1] {
			for _, product := range []int{p * q, p * q * primes[max(j-1, 0)]} {
				if product/p/q >= 1 && product > 0 && product <= limit {
					numbers = append(numbers, product)
				}
			}
		}
	}
	return numbers
}

// wildRows are no rows that may be asked for, for one reason each.
func wildRows() map[string][][]int {
	return map[string][][]int{
		"nil":                     nil,
		"empty":                   {},
		"one empty row":           {{}},
		"one row that is nil":     {nil},
		"one row of two":          {{1, 2}},
		"two rows of one":         {{1}, {2}},
		"two rows of three":       {{1, 2, 3}, {4, 5, 6}},
		"three rows of two":       {{1, 2}, {3, 4}, {5, 6}},
		"a first row too short":   {{1}, {3, 4}},
		"a last row too short":    {{1, 2}, {3}},
		"a last row too long":     {{1, 2}, {3, 4, 5}},
		"a row of none":           {{1, 0, 0}, {}, {0, 0, 1}},
		"a row that is nil":       {{1, 0, 0}, {0, 1, 0}, nil},
		"15 rows":                 diagonalOf(15, 1),
		"15 rows of zeros":        sameNumbers(15, 0),
		"15 rows of 14":           append(diagonalOf(14, 1), make([]int, 14)),
		"14 rows of 15":           diagonalOf(15, 1)[:14],
		"one of 101":              {{101}},
		"one of -101":             {{-101}},
		"101 among two":           {{1, 0}, {101, 1}},
		"-101 among five":         withNumber(diagonalOf(5, 1), 4, 4, -101),
		"17 among six":            withNumber(diagonalOf(6, 1), 0, 0, 17),
		"-17 among six":           withNumber(diagonalOf(6, 1), 5, 5, -17),
		"17 among zeros":          withNumber(sameNumbers(6, 0), 3, 2, 17),
		"17 among 14":             withNumber(diagonalOf(14, 1), 13, 13, 17),
		"-17 among 14":            withNumber(diagonalOf(14, 1), 0, 13, -17),
		"100 among six":           diagonalOf(6, 100),
		"the greatest":            {{math.MaxInt}},
		"the least":               {{math.MinInt}},
		"the least among two":     {{math.MinInt, 0}, {0, math.MinInt}},
		"the greatest of 14":      sameNumbers(14, math.MaxInt),
		"the least of 14":         sameNumbers(14, math.MinInt),
		"1 but for 2^32":          {{1 + 1<<32}},
		"very many":               make([][]int, 100000),
		"very long":               {make([]int, 100000)},
		"two rows, one very long": {{1, 0}, make([]int, 100000)},
	}
}
