package impl

import (
	"strconv"
	"strings"
)

const MaxAddress = 4294967295

const (
	addressSize = 4
	macSize     = 6
	maxNumber   = 6

	// A mac's text has two digits a byte, and a colon behind each but the last.
	macTextSize = 3*macSize - 1

	hexDigits = "0123456789abcdef"
)

// Check16 is the sum of a text; 0 of more than MaxText bytes.
func Check16(b []byte) int {
	if len(b) > MaxText {
		return 0
	}
	sum := 0
	// Adding byte by byte spares a buffer for the nought behind a last byte
	// alone: nothing may be written behind the end of b.
	for i := range len(b) {
		if i%2 == 0 {
			sum += int(b[i]) << 8
		} else {
			sum += int(b[i])
		}
	}
	for sum > 0xffff {
		sum = sum&0xffff + sum>>16
	}
	return 0xffff - sum
}

// AddressText tells an address as its four bytes' numbers.
func AddressText(ip int) (string, int) {
	if !addressOK(ip) {
		return "", ErrRange
	}
	var text []byte
	for shift := 8 * (addressSize - 1); shift >= 0; shift -= 8 {
		if len(text) > 0 {
			text = append(text, '.')
		}
		text = strconv.AppendInt(text, int64(ip>>shift&0xff), 10)
	}
	return string(text), OK
}

// ReadAddress reads what AddressText tells.
func ReadAddress(t string) (int, int) {
	if len(t) > MaxText {
		return 0, ErrLong
	}
	parts := strings.Split(t, ".")
	if len(parts) != addressSize {
		return 0, ErrForm
	}
	ip := 0
	for _, part := range parts {
		n, ok := readNumber(part)
		if !ok || n < 0 || n > 0xff {
			return 0, ErrForm
		}
		ip = ip<<8 | n
	}
	return ip, OK
}

// MacText tells a mac as two digits a byte.
func MacText(mac string) (string, int) {
	if len(mac) > MaxText {
		return "", ErrLong
	}
	if !isMac(mac) {
		return "", ErrRange
	}
	text := make([]byte, 0, macTextSize)
	for i := range len(mac) {
		if i > 0 {
			text = append(text, ':')
		}
		text = append(text, hexDigits[mac[i]>>4], hexDigits[mac[i]&0xf])
	}
	return string(text), OK
}

// ReadMac reads what MacText tells.
func ReadMac(t string) (string, int) {
	if len(t) > MaxText {
		return "", ErrLong
	}
	if len(t) != macTextSize {
		return "", ErrForm
	}
	mac := make([]byte, 0, macSize)
	for i := 0; i < len(t); i += 3 {
		high, low := hexValue(t[i]), hexValue(t[i+1])
		if high < 0 || low < 0 {
			return "", ErrForm
		}
		if i+2 < len(t) && t[i+2] != ':' {
			return "", ErrForm
		}
		mac = append(mac, byte(high<<4|low))
	}
	return string(mac), OK
}

// NumberBytes is n in size bytes, the higher ones first.
func NumberBytes(n, size int) ([]byte, int) {
	if size < 1 || size > maxNumber || !hasRoom(n, size) {
		return nil, ErrRange
	}
	b := make([]byte, size)
	for i := range size {
		b[i] = byte(n >> (8 * (size - 1 - i)))
	}
	return b, OK
}

// NumberOf reads what NumberBytes makes.
func NumberOf(b []byte) (int, int) {
	if len(b) > MaxText {
		return 0, ErrLong
	}
	if len(b) < 1 || len(b) > maxNumber {
		return 0, ErrRange
	}
	n := 0
	for i := range len(b) {
		n = n<<8 | int(b[i])
	}
	return n, OK
}

func addressOK(ip int) bool {
	return ip >= 0 && ip <= MaxAddress
}

func isMac(t string) bool {
	return len(t) == macSize
}

// hasRoom tells whether n goes into size bytes, where size is from 1 to maxNumber.
func hasRoom(n, size int) bool {
	return n >= 0 && n>>(8*size) == 0
}

// hexValue is what a digit from 0 to f stands for, or -1; capitals are none.
func hexValue(c byte) int {
	return strings.IndexByte(hexDigits, c)
}
