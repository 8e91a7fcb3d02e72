package ferry

import (
	"bytes"
	"slices"
	"strings"
	"testing"

	"ferry/api"
)

func one(name, value string) []api.Pair { return []api.Pair{{Name: name, Value: value}} }

func wantPacked(t *testing.T, headers []api.Pair, want []byte) {
	t.Helper()
	if b, e := Pack(headers); !bytes.Equal(b, want) || e != api.OK {
		t.Errorf("P3: Pack(%q) = %q, %d, want %q", headers, b, e, want)
	}
}

func wantNoHeader(t *testing.T, headers []api.Pair) {
	t.Helper()
	if b, e := Pack(headers); len(b) > 0 || e != api.ErrHeader {
		t.Errorf("P3: Pack(%.200q) = %q, %d, want ErrHeader", headers, b, e)
	}
}

func wantUnpacked(t *testing.T, b []byte, want []api.Pair) {
	t.Helper()
	if l, e := Unpack(b); !slices.Equal(l, want) || e != api.OK {
		t.Errorf("P4: Unpack(%q) = %q, %d, want %q", b, l, e, want)
	}
}

func wantNoPack(t *testing.T, b []byte) {
	t.Helper()
	if l, e := Unpack(b); len(l) > 0 || e != api.ErrPack {
		t.Errorf("P4: Unpack(%.60q) = %q, %d, want ErrPack", b, l, e)
	}
}

func TestPackExamples(t *testing.T) {
	letters := strings.Repeat("abcd", 10)
	wantPacked(t, one(":method", "GET"), []byte{129})
	wantPacked(t, one(":method", "POST"), []byte("\x41\x04POST"))
	wantPacked(t, one(":status", "500"), []byte{135, 0})
	wantPacked(t, one("age", "1"), []byte{71, 2, 1, '1'})
	wantPacked(t, one("x", "1"), []byte{0, 1, 'x', 1, '1'})
	wantPacked(t, one("x", letters), []byte("\x00\x01x\x1f\x09"+letters))
	wantUnpacked(t, []byte{129, 129}, append(one(":method", "GET"), one(":method", "GET")...))
	wantUnpacked(t, []byte{135, 128, 0}, one(":status", "500"))
	wantNoPack(t, []byte{135, 128, 128, 128, 0})
	wantNoPack(t, []byte{135, 10})
	wantNoPack(t, []byte{0, 1, 'A', 0})
}

// What Pack makes of each entry, written out by hand, so that it hangs on nothing that Pack itself uses.
func TestPackOfEachEntry(t *testing.T) {
	whole := []string{"\x81", "\x82", "\x83", "\x84", "\x85", "\x86", "\x87\x00", "\x47\x01\x00", "\x47\x02\x00", "\x47\x03\x00", "\x47\x04\x00", "\x47\x05\x00", "\x47\x06\x00", "\x47\x07\x00", "\x87\x08", "\x87\x09"}
	named := []string{"\x41", "\x41", "\x43", "\x43", "\x45", "\x45", "\x45", "\x47\x01", "\x47\x02", "\x47\x03", "\x47\x04", "\x47\x05", "\x47\x06", "\x47\x07", "\x47\x08", "\x47\x08"}
	for i, p := range api.Table() {
		wantPacked(t, []api.Pair{p}, []byte(whole[i]))
		wantPacked(t, one(p.Name, "other"), []byte(named[i]+"\x05other"))
		wantPacked(t, one(p.Name, ""), []byte(named[i]+"\x00"))
	}
}

func TestPackCountsHeaders(t *testing.T) {
	wantNoHeader(t, nil)
	wantNoHeader(t, []api.Pair{})
	for n := 1; n <= api.MaxHeaders; n++ {
		wantPacked(t, slices.Repeat(one(":path", "/"), n), bytes.Repeat([]byte{131}, n))
	}
	wantNoHeader(t, slices.Repeat(one(":path", "/"), api.MaxHeaders+1))
	wantNoHeader(t, slices.Repeat(one(":path", "/"), 100000))
	wantPacked(t, []api.Pair{{Name: "x", Value: "1"}, {Name: "type", Value: "json"}, {Name: "host", Value: "h"}}, []byte("\x00\x01x\x011\x87\x09\x47\x05\x01h"))
}

func TestPackLooksAtNames(t *testing.T) {
	for _, name := range []string{"a", "z", "0", "9", "-", ":a", ":-", ":0", "a-z", strings.Repeat("n", api.MaxName), ":" + strings.Repeat("n", api.MaxName-1)} {
		wantPacked(t, one(name, ""), []byte("\x00"+string(rune(len(name)))+name+"\x00"))
	}
	for _, name := range []string{"", ":", "::", "::a", "a:", "a:b", "-:", strings.Repeat("n", api.MaxName+1), ":" + strings.Repeat("n", api.MaxName), strings.Repeat("n", 100000), "host ", " host", "Host", "HOST", "\u0131", "n\u00e9"} {
		wantNoHeader(t, one(name, ""))
		wantNoHeader(t, append(one(":path", "/"), one(name, "")...))
	}
	for c := range 256 {
		may := c >= 'a' && c <= 'z' || c >= '0' && c <= '9' || c == '-'
		alone, behind := string([]byte{byte(c)}), string([]byte{'q', byte(c), 'q'})
		if may {
			wantPacked(t, one(alone, ""), []byte("\x00\x01"+alone+"\x00"))
			wantPacked(t, one(behind, ""), []byte("\x00\x03"+behind+"\x00"))
		} else {
			wantNoHeader(t, one(alone, ""))
			wantNoHeader(t, one(behind, ""))
		}
	}
}

func TestPackLooksAtValues(t *testing.T) {
	for length := range api.MaxValue + 1 {
		value := strings.Repeat("v", length)
		head := []byte{0, 1, 'x', byte(length)}
		if length >= 31 {
			head = []byte{0, 1, 'x', 31, byte(length - 31)}
		}
		wantPacked(t, one("x", value), append(head, value...))
	}
	wantNoHeader(t, one("x", strings.Repeat("v", api.MaxValue+1)))
	wantNoHeader(t, one("x", strings.Repeat("v", 100000)))
	for c := range 256 {
		value := string([]byte{'v', byte(c)})
		if c >= 32 && c <= 126 {
			wantPacked(t, one("x", value), []byte("\x00\x01x\x02"+value))
		} else {
			wantNoHeader(t, one("x", value))
			wantNoHeader(t, one(":method", value))
		}
	}
}
