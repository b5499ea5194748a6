package impl

import (
	"bytes"
	"iter"
)

const MaxPayload = 2000
const MaxScan = 8192

// A byte of a record has this bit, a byte that was never written has not.
const writtenBit = 128
const groupBits = 7
const groupMask = 127

const headerBytes = 2

// crcTable has the register's change by its four lowest bits: two steps a byte,
// so that sixteen words are enough.
var crcTable = [16]uint32{
	0x00000000, 0x105EC76F, 0x20BD8EDE, 0x30E349B1,
	0x417B1DBC, 0x5125DAD3, 0x61C69362, 0x7198540D,
	0x82F63B78, 0x92A8FC17, 0xA24BB5A6, 0xB21572C9,
	0xC38D26C4, 0xD3D3E1AB, 0xE330A81A, 0xF36E6F75,
}

type Payload struct {
	Data []byte
}

type Scan struct {
	Records []Payload
	End     int64
}

func Crc(data []byte) int64 {
	register := ^uint32(0)
	for _, b := range data {
		register ^= uint32(b)
		register = register>>4 ^ crcTable[register&15]
		register = register>>4 ^ crcTable[register&15]
	}
	return int64(^register)
}

func Pack(data []byte) []byte {
	packed := make([]byte, 0, (8*len(data)+6)/groupBits)
	// At most 6 bits wait for a group when 8 more come: 16 are enough.
	var bits uint16
	var waiting uint8
	for _, b := range data {
		bits = bits<<8 | uint16(b)
		waiting += 8
		for waiting >= groupBits {
			waiting -= groupBits
			packed = append(packed, groupByte(bits>>waiting))
		}
	}
	if waiting > 0 {
		packed = append(packed, groupByte(bits<<(groupBits-waiting)))
	}
	return packed
}

func groupByte(bits uint16) byte {
	return writtenBit | byte(bits&groupMask)
}

func Unpack(packed []byte) Payload {
	data := joinGroups(packed)
	// Packing again refuses every wrong form at once: the mark of a byte, the
	// number of bytes, and the filling bits.
	if !bytes.Equal(Pack(data), packed) {
		return Payload{}
	}
	return Payload{Data: data}
}

func joinGroups(packed []byte) []byte {
	data := make([]byte, 0, len(packed)*groupBits/8)
	var bits uint16
	var waiting uint8
	for _, p := range packed {
		bits = bits<<groupBits | uint16(p&groupMask)
		waiting += groupBits
		if waiting >= 8 {
			waiting -= 8
			data = append(data, byte(bits>>waiting))
		}
	}
	return data
}

func Frame(payload []byte) []byte {
	if len(payload) == 0 || len(payload) > MaxPayload {
		return nil
	}
	packed := Pack(payload)
	frame := make([]byte, 0, headerBytes+len(packed))
	frame = append(frame, writtenBit|byte(len(packed)>>groupBits), writtenBit|byte(len(packed)&groupMask))
	return append(frame, packed...)
}

func ScanFrames(area []byte) Scan {
	if len(area) > MaxScan {
		return Scan{}
	}
	var scan Scan
	for end, payload := range frames(area) {
		scan.Records = append(scan.Records, payload)
		scan.End = int64(end)
	}
	return scan
}

// frames goes through the records from the beginning of the area on, up to the
// first place without one; with each payload comes the place behind its record.
func frames(area []byte) iter.Seq2[int, Payload] {
	return func(yield func(int, Payload) bool) {
		at := 0
		for {
			payload, size := recordAt(area[at:])
			if size == 0 {
				return
			}
			at += size
			if !yield(at, payload) {
				return
			}
		}
	}
}

// recordAt gives the record at the beginning of rest and how many bytes it
// takes there; 0 bytes if there is none.
func recordAt(rest []byte) (Payload, int) {
	if len(rest) < headerBytes || rest[0] < writtenBit || rest[1] < writtenBit {
		return Payload{}, 0
	}
	size := headerBytes + int(rest[0]&groupMask)<<groupBits + int(rest[1]&groupMask)
	if size > len(rest) {
		return Payload{}, 0
	}
	payload := Unpack(rest[headerBytes:size])
	if len(payload.Data) == 0 || len(payload.Data) > MaxPayload {
		return Payload{}, 0
	}
	return payload, size
}
