package tests

import (
	"bytes"
	"hash/crc32"
	"strconv"
	"strings"
	"testing"

	"loop.example/s01594/impl"
)

// crcByBits follows the document's words bit by bit.
func crcByBits(data []byte) int64 {
	register := uint32(4294967295)
	for _, b := range data {
		register ^= uint32(b)
		for range 8 {
			if register&1 == 1 {
				register = register>>1 ^ 2197175160
			} else {
				register >>= 1
			}
		}
	}
	return int64(4294967295 - register)
}

func TestCrc(t *testing.T) {
	if got := impl.Crc([]byte("123456789")); got != 3808858755 {
		t.Errorf("123456789: %d", got)
	}
	if impl.Crc(nil) != 0 || impl.Crc([]byte{}) != 0 {
		t.Error("no bytes")
	}
	n := &numbers{state: 4}
	castagnoli := crc32.MakeTable(crc32.Castagnoli)
	for size := range 300 {
		data := n.bytes(size)
		if got := impl.Crc(data); got != crcByBits(data) || got != int64(crc32.Checksum(data, castagnoli)) {
			t.Errorf("%v: %d", data, got)
		}
	}
	for b := range 256 {
		if got := impl.Crc([]byte{byte(b)}); got != crcByBits([]byte{byte(b)}) {
			t.Errorf("byte %d: %d", b, got)
		}
	}
}

func TestCrcTellsOneByte(t *testing.T) {
	n := &numbers{state: 40}
	for _, size := range []int{1, 2, 3, 4, 5, 64, 257, 4096} {
		data := n.bytes(size)
		whole := impl.Crc(data)
		step := 1 + size/70
		for at := 0; at < size; at += step {
			for change := 1; change < 256; change++ {
				data[at] ^= byte(change)
				if impl.Crc(data) == whole {
					t.Fatalf("%d bytes: byte %d changed by %d is not seen", size, at, change)
				}
				data[at] ^= byte(change)
			}
		}
	}
}

// bitText writes the last count bits of each byte as digits.
func bitText(data []byte, count int) string {
	var out strings.Builder
	for _, b := range data {
		out.WriteString(strconv.FormatInt(256+int64(b), 2)[9-count:])
	}
	return out.String()
}

func bytesOfBits(text string, size int, add byte) []byte {
	out := []byte{}
	for at := 0; at+size <= len(text); at += size {
		v, _ := strconv.ParseUint(text[at:at+size], 2, 8)
		out = append(out, byte(v)+add)
	}
	return out
}

func packModel(data []byte) []byte {
	text := bitText(data, 8)
	for len(text)%7 != 0 {
		text += "0"
	}
	return bytesOfBits(text, 7, 128)
}

func unpackModel(packed []byte) []byte {
	data := bytesOfBits(bitText(packed, 7), 8, 0)
	if !bytes.Equal(packModel(data), packed) {
		return nil
	}
	return data
}

func checkPack(t *testing.T, data []byte) {
	t.Helper()
	packed := impl.Pack(data)
	if !bytes.Equal(packed, packModel(data)) || len(packed) != (8*len(data)+6)/7 {
		t.Errorf("Pack(%v): %v", data, packed)
	}
	for _, p := range packed {
		if p < 128 {
			t.Errorf("Pack(%v) has the byte %d", data, p)
		}
	}
	if got := impl.Unpack(packed); !bytes.Equal(got.Data, data) {
		t.Errorf("Unpack(%v): %v, not %v", packed, got.Data, data)
	}
}

func TestPackAndBack(t *testing.T) {
	checkPack(t, nil)
	for b := range 256 {
		checkPack(t, []byte{byte(b)})
	}
	for pair := range 65536 {
		if pair%7 == 0 {
			checkPack(t, []byte{byte(pair >> 8), byte(pair)})
		}
	}
	n := &numbers{state: 2}
	for size := range 130 {
		checkPack(t, make([]byte, size))
		checkPack(t, bytes.Repeat([]byte{255}, size))
		checkPack(t, n.bytes(size))
	}
	checkPack(t, n.bytes(impl.MaxPayload))
	checkPack(t, n.bytes(3*impl.MaxScan+5))
}

func TestUnpackRefuses(t *testing.T) {
	refused := func(name string, packed []byte) {
		if got := impl.Unpack(packed); len(got.Data) != 0 {
			t.Errorf("%s: %v gave %v", name, packed, got.Data)
		}
	}
	n := &numbers{state: 22}
	for size := range 30 {
		packed := impl.Pack(n.bytes(size))
		for at := range packed {
			wrong := bytes.Clone(packed)
			wrong[at] &= 127
			refused("a byte below 128", wrong)
		}
		for filling := range len(packed)*7 - size*8 {
			wrong := bytes.Clone(packed)
			wrong[len(wrong)-1] |= 1 << filling
			refused("a filling bit", wrong)
		}
	}
	for _, size := range []int{1, 9, 17, 8193} {
		refused("a wrong number of bytes", bytes.Repeat([]byte{128}, size))
		refused("a wrong number of bytes", bytes.Repeat([]byte{255}, size))
	}
	if len(impl.Unpack(nil).Data) != 0 {
		t.Error("no bytes")
	}
}

func TestUnpackEveryShortText(t *testing.T) {
	for a := range 256 {
		if got := impl.Unpack([]byte{byte(a)}); len(got.Data) != 0 {
			t.Errorf("%d: %v", a, got.Data)
		}
		for b := range 256 {
			packed := []byte{byte(a), byte(b)}
			if got := impl.Unpack(packed); !bytes.Equal(got.Data, unpackModel(packed)) {
				t.Errorf("%v: %v", packed, got.Data)
			}
		}
	}
	n := &numbers{state: 222}
	for range 3000 {
		packed := n.bytes(n.below(20))
		for i := range packed {
			if n.below(20) != 0 {
				packed[i] |= 128
			}
		}
		if len(packed) > 0 && n.below(2) == 0 {
			packed[len(packed)-1] &= 192
		}
		if got := impl.Unpack(packed); !bytes.Equal(got.Data, unpackModel(packed)) {
			t.Errorf("%v: %v", packed, got.Data)
		}
	}
}

func TestFrame(t *testing.T) {
	if impl.MaxPayload != 2000 || impl.MaxScan != 8192 {
		t.Error("a limit is not the document's")
	}
	n := &numbers{state: 3}
	for _, size := range []int{1, 2, 7, 110, 111, 112, 113, 223, 224, 225, impl.MaxPayload - 1, impl.MaxPayload} {
		payload := n.bytes(size)
		packed := packModel(payload)
		m := len(packed)
		want := append([]byte{byte(128 + m/128), byte(128 + m%128)}, packed...)
		if got := impl.Frame(payload); !bytes.Equal(got, want) {
			t.Errorf("%d bytes: %v", size, got)
		}
	}
	for _, size := range []int{0, impl.MaxPayload + 1, 20000} {
		if got := impl.Frame(make([]byte, size)); len(got) != 0 {
			t.Errorf("%d bytes: not refused", size)
		}
	}
}

// laid is an area of frames and zeros, and where each frame ends.
type laid struct {
	area     []byte
	payloads [][]byte
	ends     []int
}

func layFrames(size int, payloads ...[]byte) laid {
	out := laid{payloads: payloads}
	for _, p := range payloads {
		out.area = append(out.area, impl.Frame(p)...)
		out.ends = append(out.ends, len(out.area))
	}
	if len(out.area) < size {
		out.area = append(out.area, make([]byte, size-len(out.area))...)
	}
	return out
}

// checkScan asks for exactly the first count records of l in area.
func checkScan(t *testing.T, name string, l laid, area []byte, count int) {
	t.Helper()
	end := 0
	if count > 0 {
		end = l.ends[count-1]
	}
	got := impl.ScanFrames(area)
	if got.End != int64(end) || len(got.Records) != count {
		t.Fatalf("%s: %d records, end %d; asked: %d, %d", name, len(got.Records), got.End, count, end)
	}
	for i, r := range got.Records {
		if !bytes.Equal(r.Data, l.payloads[i]) {
			t.Fatalf("%s: record %d is %v", name, i, r.Data)
		}
	}
}

func TestScanFramesFindsAll(t *testing.T) {
	n := &numbers{state: 33}
	checkScan(t, "nothing", laid{}, nil, 0)
	checkScan(t, "zeros", laid{}, make([]byte, impl.MaxScan), 0)
	some := [][]byte{n.bytes(1), n.bytes(112), make([]byte, 40), n.bytes(impl.MaxPayload), bytes.Repeat([]byte{255}, 9)}
	for _, behind := range []int{0, 1, 2, 3, 500} {
		l := layFrames(0, some...)
		checkScan(t, "with zeros behind", l, append(l.area, make([]byte, behind)...), len(some))
	}
	many := make([][]byte, impl.MaxScan/4)
	for i := range many {
		many[i] = []byte{byte(i)}
	}
	full := layFrames(0, many...)
	if len(full.area) != impl.MaxScan {
		t.Fatalf("%d bytes", len(full.area))
	}
	checkScan(t, "MaxScan bytes", full, full.area, len(many))
	if got := impl.ScanFrames(append(full.area, 0)); len(got.Records) != 0 || got.End != 0 {
		t.Error("MaxScan+1 bytes: not refused")
	}
}

func TestScanFramesAfterEveryHole(t *testing.T) {
	n := &numbers{state: 333}
	l := layFrames(400, n.bytes(3), n.bytes(1), n.bytes(120), make([]byte, 8), n.bytes(50))
	for at := range l.area {
		area := bytes.Clone(l.area)
		area[at] = 0
		checkScan(t, "hole at "+strconv.Itoa(at), l, area, framesAhead(l, at))
	}
}

// framesAhead: how many frames end at or ahead of a place.
func framesAhead(l laid, at int) int {
	count := 0
	for count < len(l.ends) && l.ends[count] <= at {
		count++
	}
	return count
}

func TestScanFramesAfterManyHoles(t *testing.T) {
	n := &numbers{state: 3333}
	for range 2000 {
		payloads := make([][]byte, n.below(8))
		for i := range payloads {
			payloads[i] = n.bytes(1 + n.below(150))
		}
		l := layFrames(n.below(1500), payloads...)
		area := bytes.Clone(l.area)
		first := len(area)
		for range n.below(4) {
			if len(area) == 0 {
				continue
			}
			from := n.below(len(area))
			for at := from; at < len(area) && at < from+1+n.below(64); at++ {
				area[at] = 0
			}
			first = min(first, from)
		}
		checkScan(t, "holes", l, area, framesAhead(l, first))
	}
}

func TestScanFramesRefuses(t *testing.T) {
	good := layFrames(0, []byte{1, 2, 3})
	tooLong := packModel(make([]byte, impl.MaxPayload+1))
	exact := packModel(make([]byte, impl.MaxPayload))
	header := func(m int) []byte { return []byte{byte(128 + m/128), byte(128 + m%128)} }
	cases := []struct {
		name   string
		behind []byte
	}{
		{"one byte of a header", []byte{129}},
		{"header alone", []byte{128, 130}},
		{"length 0", []byte{128, 128, 255, 192}},
		{"first byte of the header too small", []byte{127, 130, 255, 192}},
		{"second byte of the header too small", []byte{128, 2, 255, 192}},
		{"cut short by one", []byte{128, 130, 255}},
		{"length of one", []byte{128, 129, 255}},
		{"filling bits", []byte{128, 130, 255, 193}},
		{"a byte below 128", []byte{128, 130, 255, 64}},
		{"nine packed bytes", append(header(9), bytes.Repeat([]byte{128}, 9)...)},
		{"payload of MaxPayload+1", append(header(len(tooLong)), tooLong...)},
		{"largest length", append([]byte{255, 255}, bytes.Repeat([]byte{128}, 5000)...)},
		{"a good record behind a hole", append([]byte{0}, good.area...)},
	}
	for _, c := range cases {
		checkScan(t, c.name, laid{}, c.behind, 0)
		checkScan(t, c.name+", behind a record", good, append(bytes.Clone(good.area), c.behind...), 1)
	}
	checkScan(t, "payload of MaxPayload", layFrames(0, make([]byte, impl.MaxPayload)), append(header(len(exact)), exact...), 1)
}
