package packing

import "ferry/api"

// isHeader tells whether name and value are such as a header may have.
func isHeader(p api.Pair) bool {
	return isName(p.Name) && isValue(p.Value)
}

func isName(name string) bool {
	if len(name) < 1 || len(name) > api.MaxName {
		return false
	}
	first := 0
	if name[0] == ':' && len(name) > 1 {
		first = 1
	}
	for i := first; i < len(name); i++ {
		if !isNameByte(name[i]) {
			return false
		}
	}
	return true
}

func isNameByte(c byte) bool {
	return c >= 'a' && c <= 'z' || c >= '0' && c <= '9' || c == '-'
}

func isValue(value string) bool {
	if len(value) > api.MaxValue {
		return false
	}
	for i := 0; i < len(value); i++ {
		if value[i] < 32 || value[i] > 126 {
			return false
		}
	}
	return true
}
