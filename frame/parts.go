package frame

import "hostler/api"

// What a kind's bytes name. The parts that a kind has stand in its bytes in this order, whatever the kind.
const (
	isKind uint16 = 1 << iota
	hasId
	hasOff
	hasCode
	hasMax
	hasMany // N
	hasFin
	hasAcks // Acks and Delay
	hasEcn
	hasLength // how many bytes Data has
	hasData
	hasCid // Cid, how many bytes it has, and Token
)

var parts = [...]uint16{
	api.FrPadding:       isKind | hasMany,
	api.FrPing:          isKind,
	api.FrAck:           isKind | hasAcks,
	api.FrAckEcn:        isKind | hasAcks | hasEcn,
	api.FrReset:         isKind | hasId | hasCode | hasMax,
	api.FrStop:          isKind | hasId | hasCode,
	api.FrCrypto:        isKind | hasOff | hasLength | hasData,
	api.FrToken:         isKind | hasLength | hasData,
	api.FrStream:        isKind | hasId | hasOff | hasFin | hasLength | hasData,
	api.FrMaxData:       isKind | hasMax,
	api.FrMaxStream:     isKind | hasId | hasMax,
	api.FrMaxBidi:       isKind | hasMax,
	api.FrMaxUni:        isKind | hasMax,
	api.FrBlocked:       isKind | hasMax,
	api.FrStreamBlocked: isKind | hasId | hasMax,
	api.FrBidiBlocked:   isKind | hasMax,
	api.FrUniBlocked:    isKind | hasMax,
	api.FrNewCid:        isKind | hasId | hasMax | hasCid,
	api.FrRetire:        isKind | hasId,
	api.FrChallenge:     isKind | hasData,
	api.FrResponse:      isKind | hasData,
	api.FrClose:         isKind | hasCode | hasMax | hasLength | hasData,
	api.FrAppClose:      isKind | hasCode | hasLength | hasData,
	api.FrDone:          isKind,
}

// partsOf answers what the kind's bytes name; 0 if it is no kind.
func partsOf(kind uint64) uint16 {
	if kind >= uint64(len(parts)) {
		return 0
	}
	return parts[kind]
}

// onlyNamed tells whether what p does not name is zero or has nothing.
func onlyNamed(f api.Frame, p uint16) bool {
	return (p&hasId != 0 || f.Id == 0) &&
		(p&hasOff != 0 || f.Off == 0) &&
		(p&hasCode != 0 || f.Code == 0) &&
		(p&hasMax != 0 || f.Max == 0) &&
		(p&hasMany != 0 || f.N == 0) &&
		(p&hasFin != 0 || !f.Fin) &&
		(p&hasAcks != 0 || len(f.Acks) == 0 && f.Delay == 0) &&
		(p&hasEcn != 0 || f.Ecn == [3]uint64{}) &&
		(p&hasData != 0 || len(f.Data) == 0) &&
		(p&hasCid != 0 || len(f.Cid) == 0 && f.Token == api.Token{})
}
