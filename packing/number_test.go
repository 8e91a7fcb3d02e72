package packing

import (
	"bytes"
	"testing"

	"ferry/api"
)

func TestNumberBytes(t *testing.T) {
	for _, c := range []struct {
		n, bits int
		high    byte
		want    []byte
	}{
		{0, 3, 0, []byte{0}},
		{6, 3, wholeEntry, []byte{134}},
		{7, 3, wholeEntry, []byte{135, 0}},
		{8, 3, nameEntry, []byte{71, 1}},
		{7 + 127, 3, nameEntry, []byte{71, 127}},
		{7 + 128, 3, nameEntry, []byte{71, 128, 1}},
		{30, 5, 0, []byte{30}},
		{31, 5, 0, []byte{31, 0}},
		{31 + 127, 5, 0, []byte{31, 127}},
		{31 + 128, 5, 0, []byte{31, 128, 1}},
		{31 + 300, 5, 0, []byte{31, 172, 2}},
		{api.MaxNumber, 3, 0, []byte{7, 136, 78}},
		{api.MaxNumber, 5, 0, []byte{31, 240, 77}},
	} {
		if b := appendNumber(nil, c.high, c.bits, c.n); !bytes.Equal(b, c.want) {
			t.Errorf("P3: %d with a prefix of %d bits = %v, want %v", c.n, c.bits, b, c.want)
		}
	}
}

func TestNumberThereAndBack(t *testing.T) {
	for _, bits := range []int{3, 5} {
		for n := range api.MaxNumber + 1 {
			b := appendNumber([]byte{9}, wholeEntry, bits, n)
			got, rest, ok := cutNumber(append(b, 77)[1:], bits)
			if got != n || !bytes.Equal(rest, []byte{77}) || !ok || b[0] != 9 {
				t.Fatalf("P4: %d with a prefix of %d bits came back as %d, %v, %v", n, bits, got, rest, ok)
			}
		}
	}
}

func TestNumberInMoreBytesThanItNeeds(t *testing.T) {
	for _, c := range []struct {
		b    []byte
		bits int
		want int
	}{
		{[]byte{7, 128, 0}, 3, 7},
		{[]byte{7, 128, 128, 0}, 3, 7},
		{[]byte{7, 136, 206, 0}, 3, api.MaxNumber},
		{[]byte{31, 157, 128, 0}, 5, 60},
		{[]byte{31, 240, 205, 0}, 5, api.MaxNumber},
	} {
		if n, rest, ok := cutNumber(c.b, c.bits); n != c.want || len(rest) > 0 || !ok {
			t.Errorf("P4: the number %v = %d, %v, %v, want %d", c.b, n, rest, ok, c.want)
		}
	}
}

func TestNumberThatIsNone(t *testing.T) {
	for _, c := range []struct {
		b    []byte
		bits int
	}{
		{nil, 3},
		{[]byte{7}, 3},
		{[]byte{7, 128}, 3},
		{[]byte{7, 128, 128}, 3},
		{[]byte{7, 128, 128, 128}, 3},
		{[]byte{7, 128, 128, 128, 0}, 3},
		{[]byte{7, 137, 78}, 3},
		{[]byte{7, 137, 206, 0}, 3},
		{[]byte{7, 128, 128, 1, 0}, 3},
		{[]byte{7, 255, 255, 127}, 3},
		{[]byte{31, 241, 77}, 5},
		{[]byte{31, 255, 255, 255, 255, 255, 255, 255, 255, 255, 255, 127}, 5},
	} {
		if n, rest, ok := cutNumber(c.b, c.bits); n != 0 || len(rest) > 0 || ok {
			t.Errorf("P4: the number %v = %d, %v, %v", c.b, n, rest, ok)
		}
	}
}
