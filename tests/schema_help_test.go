package tests

import (
	"bytes"
	"math/rand"

	"loop.example/g00041/impl"
)

// sameVal holds two values against each other; an empty list and nil are the same.
func sameVal(a impl.Val, b impl.Val) bool {
	if a.Out != b.Out || a.N != b.N || !bytes.Equal(a.B, b.B) || len(a.Kids) != len(b.Kids) || len(a.More) != len(b.More) {
		return false
	}
	for i := range a.Kids {
		if !sameVal(a.Kids[i], b.Kids[i]) {
			return false
		}
	}
	for i := range a.More {
		if !bytes.Equal(a.More[i], b.More[i]) {
			return false
		}
	}
	return true
}

func noVal(v impl.Val) bool { return sameVal(v, impl.Val{}) }

func copyVal(v impl.Val) impl.Val {
	v.B = bytes.Clone(v.B)
	kids, more := v.Kids, v.More
	v.Kids, v.More = nil, nil
	for _, kid := range kids {
		v.Kids = append(v.Kids, copyVal(kid))
	}
	for _, b := range more {
		v.More = append(v.More, bytes.Clone(b))
	}
	return v
}

func copySchema(list []impl.SType) []impl.SType {
	var out []impl.SType
	for _, s := range list {
		s.Kids = append([]int64(nil), s.Kids...)
		out = append(out, s)
	}
	return out
}

func sameSchema(a []impl.SType, b []impl.SType) bool {
	if len(a) != len(b) {
		return false
	}
	for i := range a {
		x, y := a[i], b[i]
		if x.Kind != y.Kind || x.Lo != y.Lo || x.Hi != y.Hi || x.Ext != y.Ext || x.Opt != y.Opt || len(x.Kids) != len(y.Kids) {
			return false
		}
		for k := range x.Kids {
			if x.Kids[k] != y.Kids[k] {
				return false
			}
		}
	}
	return true
}

// one is a value with one Kid.
func one(v impl.Val) impl.Val { return impl.Val{Kids: []impl.Val{v}} }

// pick is an SChoice's value.
func pick(n int64, v impl.Val) impl.Val { return impl.Val{N: n, Kids: []impl.Val{v}} }

func kidsOf(list ...impl.Val) impl.Val { return impl.Val{Kids: list} }

var out = impl.Val{Out: true}

// schemaMaker writes a schema type by type, each ahead of what stands in it.
type schemaMaker struct {
	r    *rand.Rand
	list []impl.SType
}

// anySchema has a type at 0 that is neither an SOpen nor has Opt.
func anySchema(r *rand.Rand) []impl.SType {
	m := &schemaMaker{r: r}
	m.put(1+r.Intn(4), false)
	return m.list
}

// put adds a type of at most levels, with its Kids behind it, and answers its position.
func (m *schemaMaker) put(levels int, opt bool) int64 {
	at := len(m.list)
	m.list = append(m.list, impl.SType{})
	kind := int64(1 + m.r.Intn(8))
	if levels < 2 || len(m.list) > impl.MaxTypes-20 {
		kind = int64(1 + m.r.Intn(6))
	}
	s := m.simple(kind)
	switch kind {
	case impl.SSeq:
		s.Ext = m.r.Intn(3) == 0
		if levels > 1 && len(m.list) <= impl.MaxTypes-20 {
			s.Kids = m.fields(levels)
		}
	case impl.SList:
		s.Lo = m.r.Int63n(3)
		s.Hi = s.Lo + m.r.Int63n(3)
		s.Kids = []int64{m.put(levels-1, false)}
	case impl.SChoice:
		s.Ext = m.r.Intn(3) == 0
		for range 1 + m.r.Intn(3) {
			s.Kids = append(s.Kids, m.put(levels-1, false))
		}
	}
	s.Opt = opt
	m.list[at] = s
	return int64(at)
}

func (m *schemaMaker) simple(kind int64) impl.SType {
	s := impl.SType{Kind: kind}
	switch kind {
	case impl.SInt:
		s.Lo = []int64{-impl.MaxWhole, -129, -1, 0, 1, 127}[m.r.Intn(6)]
		s.Hi = s.Lo + []int64{0, 1, 2, 255, 256, 70000}[m.r.Intn(6)]
	case impl.SBytes, impl.SText:
		s.Lo = m.r.Int63n(3)
		s.Hi = s.Lo + m.r.Int63n(4)
	case impl.SEnum:
		s.Hi = m.r.Int63n(6)
		s.Ext = m.r.Intn(2) == 0
	}
	return s
}

func (m *schemaMaker) fields(levels int) []int64 {
	var kids []int64
	for range m.r.Intn(4) {
		if levels > 2 && m.r.Intn(4) == 0 {
			kids = append(kids, m.number(), m.open(levels-1, int64(len(kids))))
			continue
		}
		kids = append(kids, m.put(levels-1, m.r.Intn(3) == 0))
	}
	return kids
}

func (m *schemaMaker) number() int64 {
	m.list = append(m.list, impl.SType{Kind: impl.SInt, Lo: -1, Hi: 3})
	return int64(len(m.list) - 1)
}

func (m *schemaMaker) open(levels int, field int64) int64 {
	at := len(m.list)
	m.list = append(m.list, impl.SType{})
	s := impl.SType{Kind: impl.SOpen, Lo: field, Ext: m.r.Intn(2) == 0, Opt: true}
	for range 1 + m.r.Intn(2) {
		s.Kids = append(s.Kids, m.put(levels-1, false))
	}
	m.list[at] = s
	return int64(at)
}

// anyKept is the bytes of an item of Class 2 whose Tag is not below known.
func anyKept(r *rand.Rand, known int) []byte {
	x := anyItem(r, 2)
	x.Class = 2
	x.Tag = int64(known) + r.Int63n(40)
	if len(x.Body) > 40 {
		x.Body = x.Body[:40]
	}
	b, _ := impl.ItemBytes(x)
	return b
}

// anyVal is a value of the type t; number is what an SOpen's field has.
func anyVal(r *rand.Rand, list []impl.SType, t int64, number int64) impl.Val {
	s := list[t]
	switch s.Kind {
	case impl.SBool:
		return impl.Val{N: r.Int63n(2)}
	case impl.SInt:
		return impl.Val{N: s.Lo + r.Int63n(s.Hi-s.Lo+1)}
	case impl.SEnum:
		if s.Ext && r.Intn(2) == 0 {
			return impl.Val{N: r.Int63n(impl.MaxEnum + 1)}
		}
		return impl.Val{N: r.Int63n(s.Hi + 1)}
	case impl.SBytes, impl.SText:
		b := make([]byte, s.Lo+r.Int63n(s.Hi-s.Lo+1))
		for i := range b {
			b[i] = byte(32 + r.Intn(95))
		}
		return impl.Val{B: b}
	case impl.SList:
		var v impl.Val
		for range s.Lo + r.Int63n(s.Hi-s.Lo+1) {
			v.Kids = append(v.Kids, anyVal(r, list, s.Kids[0], 0))
		}
		return v
	case impl.SChoice:
		if s.Ext && r.Intn(3) == 0 {
			return impl.Val{N: -1, B: anyKept(r, len(s.Kids))}
		}
		n := r.Intn(len(s.Kids))
		return pick(int64(n), anyVal(r, list, s.Kids[n], 0))
	case impl.SSeq:
		return anySeq(r, list, s)
	}
	if number >= 0 && number < int64(len(s.Kids)) {
		return one(anyVal(r, list, s.Kids[number], 0))
	}
	if !s.Ext {
		return out
	}
	return impl.Val{B: anyKept(r, 0)}
}

func anySeq(r *rand.Rand, list []impl.SType, s impl.SType) impl.Val {
	var v impl.Val
	for _, kid := range s.Kids {
		if list[kid].Opt && r.Intn(3) == 0 {
			v.Kids = append(v.Kids, out)
			continue
		}
		number := int64(0)
		if list[kid].Kind == impl.SOpen {
			number = v.Kids[list[kid].Lo].N
		}
		v.Kids = append(v.Kids, anyVal(r, list, kid, number))
	}
	if s.Ext {
		for range r.Intn(impl.MaxMore + 1) {
			v.More = append(v.More, anyKept(r, len(s.Kids)))
		}
	}
	return v
}
