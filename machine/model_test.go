package machine_test

import (
	"crypto/aes"
	"crypto/cipher"
	"crypto/ecdh"
	"crypto/hkdf"
	"crypto/hmac"
	"crypto/sha256"
	"encoding/binary"
	"slices"

	"ratchet/api"
	"ratchet/wire"
)

// The model is chapter 5 once more, on the library's primitives.

func must[T any](x T, err error) T {
	if err != nil {
		panic(err)
	}
	return x
}

func modelX25519(k, u api.Key) api.Key {
	priv := must(ecdh.X25519().NewPrivateKey(k[:]))
	shared, err := priv.ECDH(must(ecdh.X25519().NewPublicKey(u[:])))
	if err != nil {
		return api.Key{} // the library refuses the secret that is zero, and no other
	}
	return api.Key(shared)
}

func modelPublic(k api.Key) api.Key { return modelX25519(k, api.Key{9}) }

func modelHmac(key []byte, parts ...[]byte) api.Key {
	h := hmac.New(sha256.New, key)
	h.Write(slices.Concat(parts...))
	return api.Key(h.Sum(nil))
}

func modelRootKdf(root, shared api.Key) (api.Key, api.Key) {
	okm := must(hkdf.Key(sha256.New, shared[:], root[:], "ratchet root", 64))
	return api.Key(okm[:32]), api.Key(okm[32:])
}

// chainKeys are the message keys of the next n positions, and the chain key
// behind them.
func chainKeys(chain api.Key, n uint32) ([]api.Key, api.Key) {
	var keys []api.Key
	for range n {
		keys = append(keys, modelHmac(chain[:], []byte{1}))
		chain = modelHmac(chain[:], []byte{2})
	}
	return keys, chain
}

func modelStream(mk api.Key, text []byte) []byte {
	okm := must(hkdf.Key(sha256.New, mk[:], make([]byte, 32), "ratchet seal", 80))
	out := make([]byte, len(text))
	cipher.NewCTR(must(aes.NewCipher(okm[:32])), okm[64:]).XORKeyStream(out, text)
	return out
}

func modelTag(mk api.Key, ad, body []byte) api.Key {
	okm := must(hkdf.Key(sha256.New, mk[:], make([]byte, 32), "ratchet seal", 80))
	return modelHmac(okm[32:64], binary.BigEndian.AppendUint64(nil, uint64(len(ad))), ad, body)
}

// modelFrame is the frame of a header whose message key is mk.
func modelFrame(head api.Header, mk api.Key, plain []byte) []byte {
	b := slices.Concat([]byte{0xd2}, head.Pub[:])
	b = binary.BigEndian.AppendUint32(b, head.Pn)
	b = binary.BigEndian.AppendUint32(b, head.N)
	body := modelStream(mk, plain)
	tag := modelTag(mk, b, body)
	b = binary.BigEndian.AppendUint32(b, uint32(len(body)))
	return slices.Concat(b, body, tag[:])
}

func modelOpen(mk api.Key, frame []byte) ([]byte, bool) {
	body, tag := frame[45:len(frame)-32], frame[len(frame)-32:]
	if modelTag(mk, frame[:41], body) != api.Key(tag) {
		return nil, false
	}
	return modelStream(mk, body), true
}

// headOf is the header of a frame, if b is one.
func headOf(b []byte) (api.Header, bool) {
	if len(b) < 77 || len(b) > 65613 || b[0] != 0xd2 || int(binary.BigEndian.Uint32(b[41:])) != len(b)-77 {
		return api.Header{}, false
	}
	return api.Header{
		Pub: api.Key(b[1:33]), Pn: binary.BigEndian.Uint32(b[33:]), N: binary.BigEndian.Uint32(b[37:]),
	}, true
}

func modelEncrypt(s api.State, plain []byte, seed api.Key) api.Turn {
	switch {
	case !wire.ValidState(s):
		return api.Turn{Code: api.Bad}
	case len(plain) > 65536:
		return api.Turn{Code: api.TooLong, State: s}
	case !s.HasPeer:
		return api.Turn{Code: api.NotReady, State: s}
	case s.HasSend && s.Ns == 1<<32-1:
		return api.Turn{Code: api.Counter, State: s}
	case !s.HasSend && s.SendEpoch == 1<<32-1:
		return api.Turn{Code: api.Counter, State: s}
	}
	if !s.HasSend {
		s.HasOwn, s.HasSend, s.Priv, s.Pub = true, true, seed, modelPublic(seed)
		s.SendEpoch, s.Pn, s.Ns = s.SendEpoch+1, s.Ns, 0
		s.Root, s.Send = modelRootKdf(s.Root, modelX25519(seed, s.Peer))
	}
	keys, send := chainKeys(s.Send, 1)
	head := api.Header{Pub: s.Pub, Pn: s.Pn, N: s.Ns}
	s.Send, s.Ns = send, s.Ns+1
	return api.Turn{State: s, Out: modelFrame(head, keys[0], plain), Epoch: s.SendEpoch, N: head.N}
}

func modelDecrypt(s api.State, frame []byte) api.Turn {
	if !wire.ValidState(s) {
		return api.Turn{Code: api.Bad}
	}
	refuse := func(code int) api.Turn { return api.Turn{Code: code, State: s} }
	head, ok := headOf(frame)
	if !ok {
		return refuse(api.Malformed)
	}
	if head.N == 1<<32-1 {
		return refuse(api.Counter)
	}
	for i, e := range s.Store {
		if e.Pub == head.Pub && e.N == head.N {
			text, ok := modelOpen(e.Key, frame)
			if !ok {
				return refuse(api.BadTag)
			}
			s.Store = slices.Concat(s.Store[:i], s.Store[i+1:])
			return api.Turn{State: s, Out: text, Epoch: e.Epoch, N: e.N}
		}
	}
	if code := modelRefusal(s, head); code != api.OK {
		return refuse(code)
	}
	next, mk := modelStep(s, head)
	text, ok := modelOpen(mk, frame)
	if !ok {
		return refuse(api.BadTag)
	}
	return api.Turn{State: next, Out: text, Epoch: next.RecvEpoch, N: head.N}
}

func inPresentChain(s api.State, head api.Header) bool {
	return s.RecvEpoch > 0 && head.Pub == s.Peer
}

// modelRows are the numbers of keys to skip in the old and in the present chain.
func modelRows(s api.State, head api.Header) (int, int) {
	switch {
	case inPresentChain(s, head):
		return 0, int(head.N) - int(s.Nr)
	case s.RecvEpoch > 0 && head.Pn > s.Nr:
		return int(head.Pn) - int(s.Nr), int(head.N)
	}
	return 0, int(head.N)
}

// modelRefusal is steps 5 to 8 of Decrypt.
func modelRefusal(s api.State, head api.Header) int {
	present := inPresentChain(s, head)
	old, now := modelRows(s, head)
	switch {
	case present && head.N < s.Nr:
		return api.Old
	case !present && !s.HasOwn:
		return api.NotReady
	case !present && s.RecvEpoch == 1<<32-1:
		return api.Counter
	case old > s.Skip || now > s.Skip:
		return api.SkipLimit
	case len(s.Store)+old+now > s.Room:
		return api.StoreFull
	}
	return api.OK
}

// modelStep is the state behind a frame that is not refused, and the message
// key of its position.
func modelStep(s api.State, head api.Header) (api.State, api.Key) {
	old, now := modelRows(s, head)
	s.Store = slices.Clone(s.Store)
	if !inPresentChain(s, head) {
		keys, _ := chainKeys(s.Recv, uint32(old))
		s.Store = append(s.Store, keptKeys(s, keys)...)
		s.Root, s.Recv = modelRootKdf(s.Root, modelX25519(s.Priv, head.Pub))
		s.RecvEpoch, s.Peer, s.HasPeer, s.HasSend, s.Send, s.Nr = s.RecvEpoch+1, head.Pub, true, false, api.Key{}, 0
	}
	keys, recv := chainKeys(s.Recv, uint32(now)+1)
	s.Store = append(s.Store, keptKeys(s, keys[:now])...)
	s.Recv, s.Nr = recv, head.N+1
	return s, keys[now]
}

func keptKeys(s api.State, keys []api.Key) []api.Skipped {
	var kept []api.Skipped
	for i, key := range keys {
		kept = append(kept, api.Skipped{Epoch: s.RecvEpoch, N: s.Nr + uint32(i), Pub: s.Peer, Key: key})
	}
	return kept
}
