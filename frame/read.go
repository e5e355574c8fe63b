package frame

import (
	"slices"

	"hostler/api"
	"hostler/varint"
)

// Take answers the frame with whose bytes b begins, and how many they are; ErrArg if it begins with none.
func Take(b []byte) (f api.Frame, used int, e api.Errno) {
	defer func() {
		if recover() != nil {
			f, used, e = api.Frame{}, 0, api.ErrArg
		}
	}()
	r := reader{left: b}
	f = r.frame()
	return f, len(b) - len(r.left), api.OK
}

// List answers all frames of b; ErrArg if there is none, or if b is not frames one behind the other.
func List(b []byte) (l []api.Frame, e api.Errno) {
	defer func() {
		if recover() != nil {
			l, e = nil, api.ErrArg
		}
	}()
	if len(b) == 0 {
		return nil, api.ErrArg
	}
	r := reader{left: b}
	for len(r.left) > 0 {
		l = append(l, r.frame())
	}
	return l, api.OK
}

// wrong is what the reader panics with where bytes are no frame's.
type wrong struct{}

// need ends the reader if what must hold does not.
func need(holds bool) {
	if !holds {
		panic(wrong{})
	}
}

// reader takes frames off the beginning of bytes. Its methods panic where these are no frame's.
type reader struct {
	left []byte
}

func (r *reader) frame() api.Frame {
	kind := uint64(r.octet())
	f := api.Frame{Kind: kind}
	p := partsOf(kind)
	if isStream(kind) {
		f.Kind = api.FrStream
		f.Fin = kind&bitFin != 0
		p = streamParts(kind)
	}
	need(p&isKind != 0)
	if p&hasMany != 0 {
		f.N = 1 + r.zeros(maxPadding-1)
	}
	f.Id = r.numberIf(p&hasId != 0)
	f.Off = r.numberIf(p&hasOff != 0)
	f.Code = r.numberIf(p&hasCode != 0)
	f.Max = r.numberIf(p&hasMax != 0)
	if p&hasAcks != 0 {
		f.Acks, f.Delay = r.acks()
	}
	for i := range f.Ecn {
		f.Ecn[i] = r.numberIf(p&hasEcn != 0)
	}
	if p&hasData != 0 {
		f.Data = r.cut(r.length(f.Kind, p))
	}
	if p&hasCid != 0 {
		f.Cid = r.cut(uint64(r.octet()))
		copy(f.Token[:], r.cut(uint64(len(f.Token))))
	}
	need(May(f))
	return f
}

// isStream tells whether the kind, as it is on the wire, is a stream's.
func isStream(kind uint64) bool {
	return kind&^(bitFin|bitLength|bitOff) == api.FrStream
}

// streamParts answers what a stream's bytes name whose kind is that on the wire.
func streamParts(kind uint64) uint16 {
	p := partsOf(api.FrStream)
	if kind&bitOff == 0 {
		p &^= hasOff
	}
	if kind&bitLength == 0 {
		p &^= hasLength
	}
	return p
}

// length answers how many bytes Data has: it is told, or goes by the kind.
func (r *reader) length(kind uint64, p uint16) uint64 {
	switch {
	case p&hasLength != 0:
		return r.number()
	case kind == api.FrStream:
		return uint64(len(r.left))
	}
	return pathBytes
}

// acks takes the numbers of an ACK, but for its kind and Ecn.
func (r *reader) acks() (l []api.Range, delay uint64) {
	top := r.number()
	delay = r.number()
	// The number of ranges may be any: no room is made for them ahead of their bytes.
	more := r.number()
	l = append(l, r.rangeDown(top))
	for ; more > 0; more-- {
		above := l[len(l)-1].From
		gap := r.number()
		need(above >= gap+2)
		l = append(l, r.rangeDown(above-gap-2))
	}
	slices.Reverse(l)
	return l, delay
}

// rangeDown takes how many numbers but one a range has whose greatest one is top.
func (r *reader) rangeDown(top uint64) api.Range {
	n := r.number()
	need(n <= top)
	return api.Range{From: top - n, To: top + 1}
}

// zeros takes bytes 0, as many as there are, but no more than most.
func (r *reader) zeros(most int) uint64 {
	n := 0
	for n < most && n < len(r.left) && r.left[n] == 0 {
		n++
	}
	r.left = r.left[n:]
	return uint64(n)
}

func (r *reader) octet() byte {
	need(len(r.left) > 0)
	x := r.left[0]
	r.left = r.left[1:]
	return x
}

func (r *reader) number() uint64 {
	n, used, ok := varint.Take(r.left)
	need(ok)
	r.left = r.left[used:]
	return n
}

// numberIf takes a number if it is there; else it is 0.
func (r *reader) numberIf(there bool) uint64 {
	if !there {
		return 0
	}
	return r.number()
}

// cut takes n bytes, and answers them in bytes of their own; nil if they are none.
func (r *reader) cut(n uint64) []byte {
	need(n <= uint64(len(r.left)))
	own := append([]byte(nil), r.left[:n]...)
	r.left = r.left[n:]
	return own
}
