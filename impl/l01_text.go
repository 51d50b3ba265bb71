package impl

import "iter"

const MaxText = 12

func TextOk(s string) bool {
	if len(s) < 1 || len(s) > MaxText {
		return false
	}
	for c := range bytesIn(s) {
		if !isTextByte(c) {
			return false
		}
	}
	return true
}

func Begins(a []string, b []string) bool {
	if len(a) > len(b) {
		return false
	}
	for i, s := range textsIn(a) {
		if b[i] != s {
			return false
		}
	}
	return true
}

func BytesOf(list []string) int64 {
	var sum int64
	for _, s := range textsIn(list) {
		sum += int64(len(s))
	}
	return sum
}

func Upto(list []string, most int64) int64 {
	var count int64
	left := most
	for _, s := range textsIn(list) {
		size := int64(len(s))
		// Of a most below 0 not even an empty text goes in, as no size is below 0.
		if size > left {
			break
		}
		// Counted down, not summed up: a sum could pass the largest int64.
		left -= size
		count++
	}
	return count
}

func isTextByte(c byte) bool {
	return c >= 'a' && c <= 'z' || c >= '0' && c <= '9'
}

// bytesIn goes by bytes, not by runes: a text is told by its bytes, whatever they are.
func bytesIn(s string) iter.Seq[byte] {
	return func(yield func(byte) bool) {
		for i := range len(s) {
			if !yield(s[i]) {
				return
			}
		}
	}
}

func textsIn(list []string) iter.Seq2[int, string] {
	return func(yield func(int, string) bool) {
		for i, s := range list {
			if !yield(i, s) {
				return
			}
		}
	}
}
