package client

import (
	"bytes"

	"landbridge/api"
	"landbridge/proof"
)

// Member answers what keeps p from showing to c that val stands under key at that height, if anything does.
func Member(c api.Client, now, height int, key, val []byte, p api.Proof) api.Errno {
	return shown(c, now, height, func(root []byte) bool {
		return bytes.Equal(p.Key, key) && bytes.Equal(p.Val, val) && proof.Shown(root, p)
	})
}

// Missing answers what keeps g from showing to c that nothing stands under key at that height, if anything does.
func Missing(c api.Client, now, height int, key []byte, g api.Gap) api.Errno {
	return shown(c, now, height, func(root []byte) bool { return proof.Absent(root, key, g) })
}

// shown answers what keeps c from being shown what holds by the root of that height, if anything does.
func shown(c api.Client, now, height int, holds func(root []byte) bool) api.Errno {
	if err := refusal(c, now); err != api.OK {
		return err
	}
	k, there := find(c, height)
	switch {
	case !there:
		return api.ErrNone
	case !Active(c, now):
		return api.ErrTime
	case !holds(k.Root):
		return api.ErrProof
	}
	return api.OK
}
