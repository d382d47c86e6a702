package impl

import (
	"strconv"
	"strings"
)

// Box is a number, and how often it was written.
type Box struct {
	Ver int
	Val int
}

// Bounds of boxes.
const (
	BoxAll = 4
	BoxMax = 1000000
)

// boxTextMax bounds the bytes of a text that is read.
const boxTextMax = 100

// boxArray is all boxes as one value, so that they are copied and compared whole.
type boxArray [BoxAll]Box

// BoxOpen is boxes in which nothing was written.
func BoxOpen() []Box {
	return boxArray{}.list()
}

// BoxOk says whether boxes are right.
func BoxOk(list []Box) bool {
	return len(list) == BoxAll && boxesFrom(list, 0).ok()
}

// BoxSame says whether boxes are the same.
func BoxSame(a []Box, b []Box) bool {
	if len(a) != len(b) {
		return false
	}
	// Lists that are not ok may be longer than one array, so they are held against each other array by array.
	for at := 0; at < len(a); at += BoxAll {
		if boxesFrom(a, at) != boxesFrom(b, at) {
			return false
		}
	}
	return true
}

// BoxText writes boxes.
func BoxText(list []Box) string {
	var out strings.Builder
	for place, box := range list {
		if place > 0 {
			out.WriteByte(' ')
		}
		out.WriteString(box.text())
	}
	return out.String()
}

// BoxRead reads boxes.
func BoxRead(text string) ([]Box, bool) {
	if len(text) > boxTextMax {
		return nil, false
	}
	all, ok := readBoxes(text)
	if !ok || !all.ok() {
		return nil, false
	}
	return all.list(), true
}

// boxesFrom is the boxes of a list from a place on; where the list ends ahead of the array, the rest is nothing.
func boxesFrom(list []Box, at int) boxArray {
	var all boxArray
	copy(all[:], list[at:])
	return all
}

// list is the boxes in memory of their own, so that an answer shares none.
func (all boxArray) list() []Box {
	list := make([]Box, BoxAll)
	copy(list, all[:])
	return list
}

func (all boxArray) ok() bool {
	for _, box := range all {
		if !box.ok() {
			return false
		}
	}
	return true
}

func (box Box) ok() bool {
	return 0 <= box.Ver && box.Ver <= BoxMax && -BoxMax <= box.Val && box.Val <= BoxMax
}

func (box Box) text() string {
	return strconv.Itoa(box.Val) + "/" + strconv.Itoa(box.Ver)
}

// readBoxes reads all boxes of a text, whether they are within their bounds or not.
func readBoxes(text string) (boxArray, bool) {
	var all boxArray
	rest := text
words:
	for place := range BoxAll {
		word, behind, more := strings.Cut(rest, " ")
		box, ok := readBox(word)
		all[place] = box
		rest = behind
		last := place == BoxAll-1
		switch {
		case !ok, more == last: // a space stands between boxes alone
			break words
		case last:
			return all, true
		}
	}
	return boxArray{}, false
}

func readBox(word string) (Box, bool) {
	left, right, _ := strings.Cut(word, "/")
	val, valOk := readNumber(left)
	ver, verOk := readNumber(right)
	if !valOk || !verOk {
		return Box{}, false
	}
	return Box{Ver: ver, Val: val}, true
}

// readNumber reads a number that is written as numbers are told: writing it again bars needless zeros and signs.
func readNumber(text string) (int, bool) {
	number, err := strconv.Atoi(text)
	if err != nil || strconv.Itoa(number) != text {
		return 0, false
	}
	return number, true
}
