package back

import "math"

// key is a row of digits, laid into few numbers: with a number for each digit it would be wider than a table's key may be.
type key struct {
	numbers []int
	values  int // how many the last number may have: the product of its digits' radices
}

// emptied is a key without digits, in the memory of a former one.
func (k key) emptied() key { return key{append(k.numbers[:0], 0), 1} }

// add lays one digit more, below its radix, behind the others. Which number it comes into hangs on the radices alone: so keys of the same radices are the same just if their digits are.
func (k *key) add(digit, radix int) {
	if k.values > math.MaxInt/radix {
		k.numbers = append(k.numbers, 0)
		k.values = 1
	}
	last := len(k.numbers) - 1
	k.numbers[last] = k.numbers[last]*radix + digit
	k.values *= radix
}
