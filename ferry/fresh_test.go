package ferry

import (
	"bytes"
	"slices"
	"testing"

	"ferry/api"
)

func spoil(b []byte) {
	b = b[:cap(b)]
	for i := range b {
		b[i] = 255
	}
}

func spoilPairs(l []api.Pair) {
	l = l[:cap(l)]
	for i := range l {
		l[i] = api.Pair{Name: "spoilt", Value: "spoilt"}
	}
}

func TestPackKeepsAndWritesNothing(t *testing.T) {
	all := []api.Pair{{Name: "x", Value: "1"}, {Name: ":path", Value: "/"}, {Name: "behind", Value: "it"}}
	handed := slices.Clone(all)
	first, _ := Pack(handed[:2])
	second, _ := Pack(handed[:2])
	if !slices.Equal(handed, all) {
		t.Errorf("P2: Pack left %q", handed)
	}
	spoilPairs(handed)
	spoil(first)
	third, _ := Pack(all[:2])
	want := []byte("\x00\x01x\x011\x83")
	if !bytes.Equal(second, want) || !bytes.Equal(third, want) {
		t.Errorf("P2: Pack = %q and %q, want %q", second, third, want)
	}
}

func TestUnpackKeepsAndWritesNothing(t *testing.T) {
	all := []byte("\x00\x01x\x011\x83behind")
	handed := slices.Clone(all)
	first, _ := Unpack(handed[:6])
	second, _ := Unpack(handed[:6])
	if !bytes.Equal(handed, all) {
		t.Errorf("P2: Unpack left %q", handed)
	}
	spoil(handed)
	spoilPairs(first)
	third, _ := Unpack(all[:6])
	want := []api.Pair{{Name: "x", Value: "1"}, {Name: ":path", Value: "/"}}
	if !slices.Equal(second, want) || !slices.Equal(third, want) {
		t.Errorf("P2: Unpack = %q and %q, want %q", second, third, want)
	}
}
