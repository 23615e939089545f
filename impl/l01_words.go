package impl

import "strconv"

const (
	MaxText   = 20000
	MaxNumber = 1000000000
	MaxWords  = 600
	MaxParts  = 12
)

const hexDigits = "0123456789abcdef"

// Hex returns the lowercase hexadecimal encoding of text.
func Hex(text string) (string, bool) {
	if len(text) > MaxText {
		return "", false
	}
	digits := make([]byte, 0, 2*len(text))
	for at := 0; at < len(text); at++ {
		digits = append(digits, hexDigits[text[at]>>4], hexDigits[text[at]&15])
	}
	return string(digits), true
}

// Unhex returns the string for which Hex returns text.
func Unhex(text string) (string, bool) {
	if len(text)%2 != 0 || len(text) > 2*MaxText {
		return "", false
	}
	found := make([]byte, 0, len(text)/2)
	for at := 0; at < len(text); at += 2 {
		high, highOk := hexValue(text[at])
		low, lowOk := hexValue(text[at+1])
		if !highOk || !lowOk {
			return "", false
		}
		found = append(found, high<<4|low)
	}
	return string(found), true
}

// hexValue rejects the digits A to F, because Hex never writes them.
func hexValue(digit byte) (byte, bool) {
	switch {
	case digit >= '0' && digit <= '9':
		return digit - '0', true
	case digit >= 'a' && digit <= 'f':
		return digit - 'a' + 10, true
	}
	return 0, false
}

// Decimal returns n in decimal without leading zeros.
func Decimal(n int) string {
	return strconv.Itoa(n)
}

// ReadDecimal returns the number up to MaxNumber for which Decimal returns text.
func ReadDecimal(text string) (int, bool) {
	n, err := strconv.Atoi(text)
	if err != nil || n < 0 || n > MaxNumber {
		return 0, false
	}
	// Atoi also accepts leading zeros and a sign, which Decimal does not write.
	if Decimal(n) != text {
		return 0, false
	}
	return n, true
}

// PartsOf splits a line at spaces into its non-empty parts.
func PartsOf(line string) ([]string, bool) {
	if len(line) > MaxWords {
		return nil, false
	}
	valid := true
	parts := []string{}
	part := []byte{}
scan:
	for at := 0; at < len(line); at++ {
		switch b := line[at]; {
		case b < 32 || b > 126:
			valid = false
			break scan
		case b != ' ':
			part = append(part, b)
		case len(part) > 0:
			parts = append(parts, string(part))
			part = part[:0]
		}
	}
	if len(part) > 0 {
		parts = append(parts, string(part))
	}
	if !valid || len(parts) > MaxParts {
		return nil, false
	}
	return parts, true
}

// Brought returns n clamped to the range least to most.
func Brought(n int, least int, most int) int {
	if n < least || most < least {
		return least
	}
	if n > most {
		return most
	}
	return n
}
