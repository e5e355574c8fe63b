package key

import (
	"bytes"

	"hostler/aes"
	"hostler/api"
	"hostler/gcm"
	"hostler/head"
	"hostler/pnum"
)

const (
	tagBytes  = 16
	maskBytes = 16

	// mostNumber is how many bytes a packet number has at most.
	mostNumber = 4
	// leastPacket is how many bytes there must be from the number on, for a mask behind the longest number.
	leastPacket = mostNumber + maskBytes
	mostPayload = 60000
	wordBytes   = 8
)

// Bare is a packet without its protection: Hdr are its header's bytes, Box is what is behind them, still sealed.
type Bare struct {
	Head     api.Head
	Hdr, Box []byte
}

// mask protects a packet's first byte and its number, and takes their protection off again.
type mask [maskBytes]byte

// Seal answers the packet of the head and the payload, sealed and protected; ErrArg if the head may not be, or the payload is too short to be masked, ErrLong if it has more than 60000 bytes.
func Seal(k api.Keys, h api.Head, plain []byte) ([]byte, api.Errno) {
	if !head.May(h) || h.PnBytes+len(plain)+tagBytes < leastPacket {
		return nil, api.ErrArg
	}
	if len(plain) > mostPayload {
		return nil, api.ErrLong
	}
	// No error: the head may be, and the length is not near head's limit.
	header, _ := head.Put(h, len(plain)+tagBytes)
	end := len(header)
	at := end - h.PnBytes
	packet := append(header, gcm.Seal(k.Key, nonce(k.Iv, h.Pn), header, plain)...)
	m := maskOf(k.Hp, packet, at)
	packet[0] = m.first(packet[0], h.Space)
	m.turn(packet[at:end])
	return packet, api.OK
}

// Unmask takes a packet's protection off, its number as it is nearest to next; ErrArg if it is too short, At is not a place in it behind its first byte, or its first byte may not be.
func Unmask(k api.Keys, p head.Part, next uint64) (Bare, api.Errno) {
	if p.At < 1 || len(p.B)-p.At < leastPacket {
		return Bare{}, api.ErrArg
	}
	m := maskOf(k.Hp, p.B, p.At)
	// How many bytes the number has is not known yet: there are enough for the longest one.
	header := bytes.Clone(p.B[:p.At+mostNumber])
	header[0] = m.first(header[0], p.Space)
	m.turn(header[p.At:])
	h, e := head.Bare(p, header[0], header[p.At:])
	if e != api.OK {
		return Bare{}, e
	}
	h.Pn = pnum.Expand(next, h.Pn, h.PnBytes)
	end := p.At + h.PnBytes
	return Bare{Head: h, Hdr: header[:end:end], Box: bytes.Clone(p.B[end:])}, api.OK
}

// Open answers the packet's payload; ErrArg if it was not sealed so.
func Open(k api.Keys, x Bare) ([]byte, api.Errno) {
	plain, ok := gcm.Open(k.Key, nonce(k.Iv, x.Head.Pn), x.Hdr, x.Box)
	if !ok {
		return nil, api.ErrArg
	}
	return plain, api.OK
}

// nonce answers the packet number's nonce, of the keys' Iv.
func nonce(iv [nonceBytes]byte, pn uint64) [nonceBytes]byte {
	for i := nonceBytes - 1; i >= nonceBytes-wordBytes; i-- {
		iv[i] ^= byte(pn)
		pn >>= 8
	}
	return iv
}

// maskOf answers the mask of a packet whose number's place is at. It reads as if the number were of the longest, since its length is masked too.
func maskOf(hp [keyBytes]byte, packet []byte, at int) mask {
	sample := packet[at+mostNumber : at+leastPacket]
	return aes.New(hp).Seal([maskBytes]byte(sample))
}

// first answers a packet's first byte, turned: protected if it was bare, bare if it was protected.
func (m mask) first(b byte, space uint8) byte {
	return b ^ m[0]&head.Bits(space)
}

// turn turns a packet number's bytes where they lie.
func (m mask) turn(number []byte) {
	for i := range number {
		number[i] ^= m[1+i]
	}
}
