package wire

import "ratchet/api"

// frameSize is what a frame has besides its body.
const frameSize = api.HeaderSize + wordSize + api.TagSize

func appendFrame(b []byte, f api.Frame) []byte {
	b = append(b, api.FrameMark)
	b = append(b, f.Head.Pub[:]...)
	b = appendU32(b, f.Head.Pn)
	b = appendU32(b, f.Head.N)
	b = appendU32(b, uint32(len(f.Body)))
	b = append(b, f.Body...)
	return append(b, f.Tag[:]...)
}

// measuresAsFrame asks the mark and the lengths. Every other byte of a frame
// is free, so that nothing else is left to ask.
func measuresAsFrame(b []byte) bool {
	if len(b) < frameSize || len(b) > frameSize+api.MaxPlain || b[0] != api.FrameMark {
		return false
	}
	length := reader{b[api.HeaderSize:]}
	return length.u32() == uint32(len(b)-frameSize)
}

func readFrame(b []byte) api.Frame {
	r := reader{b[1:]}
	head := api.Header{Pub: r.key(), Pn: r.u32(), N: r.u32()}
	body := r.fresh(int(r.u32()))
	return api.Frame{Head: head, Body: body, Tag: r.key()}
}
