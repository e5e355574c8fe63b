package head

import (
	"bytes"

	"hostler/api"
	"hostler/varint"
)

// leastSealed is how many bytes a packet has at least from its number on: what its mask is made of must be there.
const leastSealed = 20

// Split answers a datagram's first packet, and what is behind it; ErrArg if it does not begin with one. Short packets' Dst has own bytes.
func Split(b []byte, own int) (p Part, rest []byte, e api.Errno) {
	r := reader{octets: b}
	p = r.part(own)
	if r.bad {
		return Part{}, nil, api.ErrArg
	}
	// One copy is enough for both: they lie apart in it, and neither has room to grow into the other.
	all := octets(bytes.Clone(b))
	p.B = all.cut(0, r.at)
	return p, all.cut(r.at, len(all)), api.OK
}

// octets are bytes that others are cut out of.
type octets []byte

// cut answers the bytes from one place up to another, without room behind them; nil if they are none.
func (o octets) cut(from, to int) []byte {
	if from == to {
		return nil
	}
	return o[from:to:to]
}

// reader takes a packet off the beginning of its bytes. Where they are no packet's it is bad from then on, and reads zeros and nothing.
type reader struct {
	octets
	at  int
	bad bool
}

// part takes the whole packet; B is not told yet.
func (r *reader) part(own int) Part {
	first := r.octet()
	r.need(first&bitFixed != 0)
	var p Part
	var sealed uint64
	if first&bitLong != 0 {
		p, sealed = r.long(first)
	} else {
		p, sealed = r.short(own)
	}
	p.At = r.at
	r.need(sealed >= leastSealed)
	r.take(sealed)
	return p
}

// long takes a long packet's header up to its number, and answers how many bytes follow.
func (r *reader) long(first byte) (p Part, sealed uint64) {
	p.Space = r.space(first)
	r.need(string(r.take(uint64(len(version)))) == version)
	p.Dst = r.id()
	p.Src = r.id()
	if p.Space == api.SpInitial {
		p.Token = bytes.Clone(r.take(r.number()))
	}
	return p, r.number()
}

// short takes a short packet's header up to its number, and answers how many bytes follow: it goes up to the end.
func (r *reader) short(own int) (p Part, sealed uint64) {
	r.need(own >= 0 && own <= api.MaxCid)
	p.Space = api.SpApp
	p.Dst = bytes.Clone(r.take(uint64(own)))
	return p, r.left()
}

// space answers the space of a long packet's type.
func (r *reader) space(first byte) uint8 {
	kind := first & typeBits
	r.need(kind == typeInitial || kind == typeHandshake)
	if kind == typeHandshake {
		return api.SpHandshake
	}
	return api.SpInitial
}

// id takes a connection id, behind how many bytes it has.
func (r *reader) id() []byte {
	n := r.octet()
	r.need(n <= api.MaxCid)
	return bytes.Clone(r.take(uint64(n)))
}

// need makes the reader bad if what must hold does not.
func (r *reader) need(holds bool) {
	r.bad = r.bad || !holds
}

// left tells how many bytes are not yet taken.
func (r *reader) left() uint64 {
	return uint64(len(r.octets) - r.at)
}

// take takes n bytes, and answers them as they lie there.
func (r *reader) take(n uint64) []byte {
	r.need(n <= r.left())
	if r.bad {
		return nil
	}
	from := r.at
	r.at += int(n)
	return r.cut(from, r.at)
}

func (r *reader) octet() byte {
	l := r.take(1)
	if r.bad {
		return 0
	}
	return l[0]
}

func (r *reader) number() uint64 {
	n, used, ok := varint.Take(r.octets[r.at:])
	r.need(ok)
	if r.bad {
		return 0
	}
	r.at += used
	return n
}
