package journal

import "ratchet/api"

func isRegion(sectors int) bool {
	return sectors >= api.MinRegion && sectors <= api.MaxRegion
}

// imageSectors are the sectors of an image.
func imageSectors(image []byte) ([]sector, error) {
	const pair = 2 * api.SectorSize // one sector of either region
	if len(image)%pair != 0 || !isRegion(len(image)/pair) {
		return nil, errBad
	}
	return cutUp(image), nil
}

// cutUp are the sectors that hold b, the last one filled up with zeros.
func cutUp(b []byte) []sector {
	list := make([]sector, fullSectors(uint64(len(b))))
	for i := range list {
		copy(list[i][:], b[i*api.SectorSize:])
	}
	return list
}

// fullSectors is how many sectors the bytes fill, the last one perhaps in part.
func fullSectors(length uint64) uint64 {
	return (length + api.SectorSize - 1) / api.SectorSize
}

func joined(list []sector) []byte {
	b := make([]byte, 0, len(list)*api.SectorSize)
	for _, s := range list {
		b = append(b, s[:]...)
	}
	return b
}
