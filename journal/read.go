package journal

import (
	"bytes"
	"slices"
	"strconv"
	"strings"

	"pleach/api"
)

// segments is how many segments there may be.
const segments = 256

// name tells a segment's name.
func name(k int) string {
	digits := strconv.Itoa(k)
	return "j" + strings.Repeat("0", 4-len(digits)) + digits
}

// read makes the frames that stand on the disk, up to the tear, the journal's, and tells their payloads, and whether there is a tear: it is at the end of what the journal has then. The names are the disk's.
func (j *Journal) read(names []string) ([][]byte, bool, api.Errno) {
	payloads := [][]byte{}
	torn := false
reading:
	for k := range segments {
		if !slices.Contains(names, name(k)) {
			break
		}
		b, e := j.bytesOf(k)
		if e != api.OK {
			return nil, false, e
		}
		j.present, j.size = k, 0
		for j.size < len(b) {
			p := begun(b[j.size:])
			if p == nil {
				torn = true
				break reading
			}
			j.frames = append(j.frames, place{segment: k, at: j.size})
			payloads = append(payloads, bytes.Clone(p))
			j.size += headSize + len(p)
		}
	}
	return payloads, torn, api.OK
}

// bytesOf tells all bytes of a segment.
func (j *Journal) bytesOf(k int) ([]byte, api.Errno) {
	n, e := j.on.Size(name(k))
	if e != api.OK {
		return nil, e
	}
	return j.on.Read(name(k), 0, n)
}

// mend takes away all that stands behind the journal's frames, so that the next one comes right behind them, and makes them safe.
func (j *Journal) mend(names []string, torn bool) api.Errno {
	// What stands behind a tear goes ahead of it: else what stands there might be read when the tear is gone.
	for k := segments - 1; k > j.present; k-- {
		if !slices.Contains(names, name(k)) {
			continue
		}
		if e := j.on.Drop(name(k)); e != api.OK {
			return e
		}
	}
	if torn {
		if e := j.on.Cut(name(j.present), j.size); e != api.OK {
			return e
		}
	}
	if j.present == none {
		return api.OK
	}
	return j.on.Sync(name(j.present))
}
