package impl

import (
	"bytes"
	"errors"
	"strconv"
)

const MaxTag = 268435455
const MaxDeep = 12

const (
	TShort = 1 + iota
	TTag
	TLen
	TEnd
	TDeep
	TTrail
	TLong
)

type Item struct {
	Class int64
	Tag   int64
	Cons  bool
	Body  []byte
	Kids  []Item
}

const (
	maxClass   = 3
	classShift = 6
	consBit    = 32
	longTag    = 31 // in the five low bits: the tag stands in groups behind
	maxGroups  = 6

	longLen    = 128 // added to the number of bytes that the length has
	maxLenSize = 4
)

func ItemOk(x Item) bool {
	_, ok := ItemBytes(x)
	return ok
}

func ItemBytes(x Item) ([]byte, bool) {
	return bytesAtDepth(x, 1)
}

// bytesAtDepth gives up at the first limit that is passed, so that it ends soon
// even where lists of Kids stand in many places, or within themselves.
func bytesAtDepth(x Item, deep int64) ([]byte, bool) {
	if deep > MaxDeep || !shapeOk(x) {
		return nil, false
	}
	inner, ok := innerBytes(x, deep)
	if !ok {
		return nil, false
	}
	out := append(itemHead(x, int64(len(inner))), inner...)
	if len(out) > MaxBytes {
		return nil, false
	}
	return out, true
}

func shapeOk(x Item) bool {
	if x.Class < 0 || x.Class > maxClass || x.Tag < 0 || x.Tag > MaxTag {
		return false
	}
	if x.Class == 0 && x.Tag == 0 {
		return false
	}
	if x.Cons {
		return len(x.Body) == 0
	}
	return len(x.Kids) == 0
}

// innerBytes answers what stands behind the head; without Cons it may be x's own Body.
func innerBytes(x Item, deep int64) ([]byte, bool) {
	if !x.Cons {
		return x.Body, len(x.Body) <= MaxBytes
	}
	var out []byte
	for _, kid := range x.Kids {
		part, ok := bytesAtDepth(kid, deep+1)
		if !ok || len(out)+len(part) > MaxBytes {
			return nil, false
		}
		out = append(out, part...)
	}
	return out, true
}

func itemHead(x Item, length int64) []byte {
	first := byte(x.Class << classShift)
	if x.Cons {
		first |= consBit
	}
	if x.Tag < longTag {
		return append([]byte{first | byte(x.Tag)}, lengthBytes(length)...)
	}
	out := append([]byte{first | longTag}, PutNum(x.Tag)...)
	return append(out, lengthBytes(length)...)
}

func lengthBytes(length int64) []byte {
	if length < longLen {
		return []byte{byte(length)}
	}
	digits := eightBytes(uint64(length))
	skip := 0
	for digits[skip] == 0 {
		skip++
	}
	return append([]byte{byte(longLen + len(digits) - skip)}, digits[skip:]...)
}

// itemFault is what the reader gives up with, from however deep it is.
type itemFault struct {
	code  int64
	place int64
}

func (f itemFault) Error() string {
	return "item: code " + strconv.FormatInt(f.code, 10) + " at " + strconv.FormatInt(f.place, 10)
}

func ReadItem(b []byte, lax bool) (Item, int64, int64) {
	x, err := readWhole(b, lax)
	var fault itemFault
	if errors.As(err, &fault) {
		return Item{}, fault.code, fault.place
	}
	return x, 0, 0
}

func readWhole(b []byte, lax bool) (x Item, err error) {
	defer func() {
		if caught, ok := recover().(error); ok {
			x, err = Item{}, caught
		}
	}()
	if len(b) > MaxBytes {
		giveUp(TLong, 0)
	}
	end := int64(len(b))
	x, next := itemReader{data: b, lax: lax}.item(0, end, 1)
	if next < end {
		giveUp(TTrail, next)
	}
	return x, nil
}

func giveUp(code int64, place int64) {
	panic(itemFault{code: code, place: place})
}

type itemReader struct {
	data []byte
	lax  bool
}

// item reads the one that begins at p within end, and answers the place behind it.
func (r itemReader) item(p int64, end int64, deep int64) (Item, int64) {
	if deep > MaxDeep {
		giveUp(TDeep, p)
	}
	if p == end {
		giveUp(TShort, end)
	}
	x, at := r.tag(p, end)
	length, open, at := r.length(at, end, x.Cons)
	if open {
		x.Kids, at = r.openKids(at, end, deep+1)
		return x, at
	}
	if length > end-at {
		giveUp(TShort, end)
	}
	next := at + length
	if x.Cons {
		x.Kids = r.closedKids(at, next, deep+1)
	} else {
		x.Body = bytes.Clone(r.data[at:next])
	}
	return x, next
}

func (r itemReader) tag(p int64, end int64) (Item, int64) {
	first := r.data[p]
	x := Item{Class: int64(first >> classShift), Tag: int64(first & longTag), Cons: first&consBit != 0}
	next := p + 1
	if x.Tag == longTag {
		x.Tag, next = r.groups(p, end)
	}
	if x.Tag > MaxTag || x.Class == 0 && x.Tag == 0 {
		giveUp(TTag, p)
	}
	return x, next
}

// groups reads the tag of the item at p. GetNum can't: it takes no group of 128
// ahead, and more groups than a tag may have.
func (r itemReader) groups(p int64, end int64) (int64, int64) {
	tag := int64(0)
	at := p + 1
	count := 0
groups:
	for {
		if at == end {
			giveUp(TShort, end)
		}
		group := r.data[at]
		count++
		at++
		switch {
		case count > maxGroups:
			giveUp(TTag, p)
		case group < groupMore:
			tag = tag<<groupBits | int64(group)
			break groups
		default:
			tag = tag<<groupBits | int64(group-groupMore)
		}
	}
	if !r.lax && (r.data[p+1] == groupMore || tag < longTag) {
		giveUp(TTag, p)
	}
	return tag, at
}

// length answers how many bytes the item has behind its head, or that it is open,
// and the place behind the head.
func (r itemReader) length(at int64, end int64, cons bool) (int64, bool, int64) {
	if at == end {
		giveUp(TShort, end)
	}
	first := int64(r.data[at])
	if first < longLen {
		return first, false, at + 1
	}
	if first == longLen && r.lax && cons {
		return 0, true, at + 1
	}
	if first == longLen || first > longLen+maxLenSize {
		giveUp(TLen, at)
	}
	next := at + 1 + first - longLen
	if next > end {
		giveUp(TShort, end)
	}
	length := int64(0)
	for _, digit := range r.data[at+1 : next] {
		length = length<<8 | int64(digit)
	}
	if !r.lax && int64(len(lengthBytes(length))) < next-at {
		giveUp(TLen, at)
	}
	return length, false, next
}

func (r itemReader) closedKids(at int64, end int64, deep int64) []Item {
	var kids []Item
	for at < end {
		kid, next := r.item(at, end, deep)
		kids = append(kids, kid)
		at = next
	}
	return kids
}

func (r itemReader) openKids(at int64, end int64, deep int64) ([]Item, int64) {
	var kids []Item
	for !r.endMark(at, end) {
		kid, next := r.item(at, end, deep)
		kids = append(kids, kid)
		at = next
	}
	return kids, at + 2
}

// endMark looks ahead of any kid: bytes that end, or a mark, are none that would be too deep.
func (r itemReader) endMark(at int64, end int64) bool {
	if at == end {
		giveUp(TShort, end)
	}
	if r.data[at] != 0 {
		return false
	}
	if at+1 == end {
		giveUp(TShort, end)
	}
	if r.data[at+1] != 0 {
		giveUp(TEnd, at)
	}
	return true
}

func Canon(b []byte) ([]byte, int64, int64) {
	x, code, place := ReadItem(b, true)
	if code != 0 {
		return nil, code, place
	}
	// No lax form is shorter than the strict one, so what is read is right.
	out, _ := ItemBytes(x)
	return out, 0, 0
}

func Walk(x Item, path []int64) (Item, bool) {
	if !ItemOk(x) {
		return Item{}, false
	}
	for _, position := range path {
		if position < 0 || position >= int64(len(x.Kids)) {
			return Item{}, false
		}
		x = x.Kids[position]
	}
	return cloneItem(x), true
}

func cloneItem(x Item) Item {
	x.Body = bytes.Clone(x.Body)
	kids := make([]Item, len(x.Kids))
	for i, kid := range x.Kids {
		kids[i] = cloneItem(kid)
	}
	x.Kids = kids
	return x
}
