package wire

import (
	"bytes"

	"landbridge/api"
)

// The first byte of a piece: it tells the kind, but is not the kind's own number.
const (
	firstOfNum   = 0
	firstOfBytes = 1
)

func appendPiece(out []byte, p api.Piece) ([]byte, api.Errno) {
	var content []byte
	switch p.Kind {
	case api.PNum:
		out = appendNumber(append(out, firstOfNum), p.N)
	case api.PBytes:
		out = appendNumber(append(out, firstOfBytes), uint64(len(p.B)))
		content = p.B
	default:
		return nil, api.ErrKind
	}
	// Ahead of the copy: however much is handed in, no more than the limit is copied.
	if len(content) > api.MaxBytes-len(out) {
		return nil, api.ErrMuch
	}
	return append(out, content...), api.OK
}

// cutPiece answers the piece that b begins with, and what is behind it.
func cutPiece(b []byte) (api.Piece, []byte, bool) {
	if len(b) == 0 || b[0] > firstOfBytes {
		return api.Piece{}, nil, false
	}
	n, rest, ok := cutNumber(b[1:])
	if !ok {
		return api.Piece{}, nil, false
	}
	if b[0] == firstOfNum {
		return api.Piece{Kind: api.PNum, N: n}, rest, true
	}
	if n > uint64(len(rest)) {
		return api.Piece{}, nil, false
	}
	return api.Piece{Kind: api.PBytes, B: bytes.Clone(rest[:n])}, rest[n:], true
}
