package impl

const MaxNum = 1000000000
const MaxRow = 48

const sumStart = 7
const sumFactor = 131
const sumModulus = 999999937

// A cursor moves along the numbers of a packed row. It is used behind a pointer, so that all the
// steps of one packing or unpacking share its position.
type cursor struct {
	row []int64
	at  int
}

// fits reports whether many more numbers can be put without the row becoming too long.
func (c *cursor) fits(many int) bool { return many <= MaxRow-len(c.row) }

// left returns how many numbers have not been taken yet.
func (c *cursor) left() int64 { return int64(len(c.row) - c.at) }

// put appends numbers; the caller has asked whether they fit.
func (c *cursor) put(numbers []int64) { c.row = append(c.row, numbers...) }

// putLength appends a count, of rows or of numbers.
func (c *cursor) putLength(many int) { c.row = append(c.row, int64(many)) }

// take returns a copy of the next numbers, as the row under the cursor belongs to the caller.
func (c *cursor) take(many int64) ([]int64, bool) {
	if many > c.left() {
		return nil, false
	}
	end := c.at + int(many)
	numbers := copiedRow(c.row[c.at:end])
	c.at = end
	return numbers, true
}

// takeLength returns the next number, a count of rows or of numbers.
func (c *cursor) takeLength() (int64, bool) {
	if c.left() == 0 {
		return 0, false
	}
	many := c.row[c.at]
	c.at++
	return many, true
}

// takeRow returns the next row, which is preceded by its length.
func (c *cursor) takeRow() ([]int64, bool) {
	many, ok := c.takeLength()
	if !ok {
		return nil, false
	}
	return c.take(many)
}

// copiedRow copies into memory of its own, without spare capacity that a later append could share.
func copiedRow(row []int64) []int64 {
	fresh := make([]int64, len(row))
	copy(fresh, row)
	return fresh
}

// RowOk reports whether row is a row.
func RowOk(row []int64) bool {
	if len(row) > MaxRow {
		return false
	}
	for _, x := range row {
		if x < 0 || x > MaxNum {
			return false
		}
	}
	return true
}

// SameRow reports whether a and b have equal lengths and elements; they need not be rows.
func SameRow(a []int64, b []int64) bool {
	if len(a) != len(b) {
		return false
	}
	for i, x := range a {
		if x != b[i] {
			return false
		}
	}
	return true
}

// SumOf returns the checksum of a row: starting with 7, for each number x the sum s becomes (131
// * s + x + 1) modulo 999999937. It returns -1 if row is not a row.
func SumOf(row []int64) int64 {
	if !RowOk(row) {
		return -1
	}
	s := int64(sumStart)
	for _, x := range row {
		s = (sumFactor*s + x + 1) % sumModulus
	}
	return s
}

// WithSum returns row followed by its checksum. It returns nil if row is not a row or the result
// would have more than MaxRow numbers.
func WithSum(row []int64) []int64 {
	if len(row) >= MaxRow || !RowOk(row) {
		return nil
	}
	// The argument may have spare capacity, which an append to it would overwrite.
	summed := make([]int64, len(row)+1)
	copy(summed, row)
	summed[len(row)] = SumOf(row)
	return summed
}

// Unsummed returns the row for which WithSum returns row, and true. It returns nil and false if
// there is none.
func Unsummed(row []int64) ([]int64, bool) {
	if len(row) == 0 || !RowOk(row) {
		return nil, false
	}
	last := len(row) - 1
	if SumOf(row[:last]) != row[last] {
		return nil, false
	}
	return copiedRow(row[:last]), true
}

// Packed returns the number of rows, followed for each row by its length and its numbers. It
// returns nil if an element is not a row or the result would not be a row.
func Packed(rows [][]int64) []int64 {
	c := &cursor{}
	c.putLength(len(rows))
	for _, row := range rows {
		if !RowOk(row) || !c.fits(1+len(row)) {
			return nil
		}
		c.putLength(len(row))
		c.put(row)
	}
	return c.row
}

// Unpacked returns the rows for which Packed returns row, and true. It returns nil and false if
// there are none.
func Unpacked(row []int64) ([][]int64, bool) {
	if !RowOk(row) {
		return nil, false
	}
	c := &cursor{row: row}
	many, ok := c.takeLength()
	if !ok {
		return nil, false
	}
	rows := [][]int64{}
	for range many {
		next, ok := c.takeRow()
		if !ok {
			return nil, false
		}
		rows = append(rows, next)
	}
	if c.left() != 0 {
		return nil, false
	}
	return rows, true
}
