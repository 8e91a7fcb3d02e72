package ferry

import (
	"bytes"
	"slices"
	"strings"
	"testing"

	"ferry/api"
)

// numberWays is every way to pack a number of at most 7 bits behind its prefix.
func numberWays(high byte, bits int, n int) [][]byte {
	most := 1<<bits - 1
	if n < most {
		return [][]byte{{high + byte(n)}}
	}
	first, left := high+byte(most), byte(n-most)
	return [][]byte{{first, left}, {first, left + 128, 0}, {first, left + 128, 128, 0}}
}

func textWays(text string) [][]byte {
	return joined(numberWays(0, 5, len(text)), [][]byte{[]byte(text)})
}

// joined is each of the first ones with each of the second ones behind it.
func joined(first, second [][]byte) [][]byte {
	var all [][]byte
	for _, a := range first {
		for _, b := range second {
			all = append(all, slices.Concat(a, b))
		}
	}
	return all
}

// headerWays is every way to pack a header.
func headerWays(p api.Pair) [][]byte {
	all := joined([][]byte{{0}}, joined(textWays(p.Name), textWays(p.Value)))
	for i, known := range api.Table() {
		if known == p && p.Value != "" {
			all = append(all, numberWays(128, 3, i+1)...)
		}
		if known.Name == p.Name {
			all = append(all, joined(numberWays(64, 3, i+1), textWays(p.Value))...)
		}
	}
	return all
}

func someHeaders() []api.Pair {
	list := api.Table()
	for _, p := range api.Table() {
		list = append(list, api.Pair{Name: p.Name}, api.Pair{Name: p.Name, Value: "~ !"}, api.Pair{Name: p.Name, Value: strings.Repeat(" ", api.MaxValue)})
	}
	for length := range api.MaxValue + 1 {
		list = append(list, api.Pair{Name: ":own", Value: strings.Repeat("v", length)})
	}
	for length := 1; length <= api.MaxName; length++ {
		list = append(list, api.Pair{Name: strings.Repeat("n", length), Value: "1"})
	}
	return list
}

func TestUnpackTakesEveryWay(t *testing.T) {
	for _, p := range someHeaders() {
		for _, way := range headerWays(p) {
			wantUnpacked(t, way, []api.Pair{p})
			wantUnpacked(t, slices.Concat(way, []byte{130}, way), []api.Pair{p, {Name: ":method", Value: "PUT"}, p})
		}
	}
}

func TestUnpackOfWhatEndsTooEarly(t *testing.T) {
	for _, p := range someHeaders() {
		for _, way := range headerWays(p) {
			for length := range len(way) {
				wantNoPack(t, way[:length])
				if length > 0 {
					wantNoPack(t, append([]byte{130}, way[:length]...))
				}
			}
		}
	}
}

func TestUnpackTakesWhatPackMade(t *testing.T) {
	list := someHeaders()
	for i := range list {
		headers := list[i:min(i+1+i%api.MaxHeaders, len(list))]
		b, e := Pack(headers)
		if e != api.OK {
			t.Fatalf("P3: Pack(%q) = %d", headers, e)
		}
		wantUnpacked(t, b, headers)
	}
}

func TestUnpackCountsHeaders(t *testing.T) {
	wantNoPack(t, nil)
	wantNoPack(t, []byte{})
	for n := 1; n <= api.MaxHeaders; n++ {
		wantUnpacked(t, bytes.Repeat([]byte{131}, n), slices.Repeat(one(":path", "/"), n))
	}
	wantNoPack(t, bytes.Repeat([]byte{131}, api.MaxHeaders+1))
	wantNoPack(t, append(bytes.Repeat([]byte{131}, api.MaxHeaders), 0))
	wantNoPack(t, bytes.Repeat([]byte{131}, api.MaxBlock))
	wantNoPack(t, bytes.Repeat([]byte{131}, api.MaxBlock+1))
}

// The longest bytes that are headers; with names and values as long as they may be, in the longest way.
func TestUnpackOfTheLongest(t *testing.T) {
	name, value := strings.Repeat("n", api.MaxName), strings.Repeat("v", api.MaxValue)
	longest := "\x00\x14" + name + "\x1f\x9d\x80\x00" + value
	wantUnpacked(t, []byte(strings.Repeat(longest, api.MaxHeaders)), slices.Repeat(one(name, value), api.MaxHeaders))
	wantNoPack(t, []byte(strings.Repeat(longest, api.MaxHeaders+1)))
}

func TestUnpackLooksAtEntries(t *testing.T) {
	for entry := range 300 {
		whole, named := numberThree(128, entry), numberThree(64, entry)
		if entry < 1 || entry > 16 {
			wantNoPack(t, whole)
			wantNoPack(t, append(named, 0))
			continue
		}
		known := api.Table()[entry-1]
		wantUnpacked(t, append(named, 0), one(known.Name, ""))
		if known.Value == "" {
			wantNoPack(t, whole)
			wantNoPack(t, append(whole, 0))
		} else {
			wantUnpacked(t, whole, []api.Pair{known})
		}
	}
	for _, b := range []string{"\x87\x88\x4e", "\x87\x89\x4e", "\x47\x88\x4e\x00", "\x47\x89\x4e\x00", "\x87\xff\xff\x7f", "\x47\x80\x80\x80\x00\x00", "\x00\x01x\x1f\x80\x80\x80\x00"} {
		wantNoPack(t, []byte(b))
	}
}

// numberThree packs a number below 7 + 128 * 128 with a prefix of 3 bits.
func numberThree(high byte, n int) []byte {
	switch {
	case n < 7:
		return []byte{high + byte(n)}
	case n < 7+128:
		return []byte{high + 7, byte(n - 7)}
	}
	return []byte{high + 7, 128 + byte((n-7)%128), byte((n - 7) / 128)}
}

func TestUnpackLooksAtOtherBits(t *testing.T) {
	for first := 1; first < 256; first++ {
		if first>>3 != 16 && first>>3 != 8 {
			for _, behind := range []string{"", "\x00", "\x01x\x00", "\x01x\x01y", "\x00\x00"} {
				wantNoPack(t, append([]byte{byte(first)}, behind...))
			}
		}
	}
	for high := 32; high < 256; high += 32 {
		wantNoPack(t, []byte{0, byte(high) + 1, 'x', 1, 'y'})
		wantNoPack(t, []byte{0, 1, 'x', byte(high) + 1, 'y'})
		wantNoPack(t, []byte{65, byte(high) + 1, 'y'})
		wantNoPack(t, []byte{65, byte(high)})
	}
}

func TestUnpackLooksAtTexts(t *testing.T) {
	for c := range 256 {
		b := byte(c)
		if c >= 32 && c <= 126 {
			wantUnpacked(t, []byte{65, 1, b}, one(":method", string(rune(c))))
		} else {
			wantNoPack(t, []byte{65, 1, b})
			wantNoPack(t, []byte{0, 1, 'x', 1, b})
		}
		if c >= 'a' && c <= 'z' || c >= '0' && c <= '9' || c == '-' {
			wantUnpacked(t, []byte{0, 2, ':', b, 0}, one(":"+string(rune(c)), ""))
		} else {
			wantNoPack(t, []byte{0, 1, b, 0})
			wantNoPack(t, []byte{0, 2, ':', b, 0})
			wantNoPack(t, []byte{0, 2, 'x', b, 0})
		}
	}
	wantNoPack(t, []byte{0, 0, 0})
	wantNoPack(t, []byte("\x00\x15"+strings.Repeat("n", api.MaxName+1)+"\x00"))
	wantNoPack(t, []byte("\x00\x1f\x00"+strings.Repeat("n", 31)+"\x00"))
	wantNoPack(t, []byte("\x00\x01x\x1f\x1e"+strings.Repeat("v", api.MaxValue+1)))
	wantNoPack(t, []byte("\x47\x02\x1f\x1e"+strings.Repeat("v", api.MaxValue+1)))
	wantNoPack(t, []byte("\x41\x1f\xc8\x07"+strings.Repeat("v", api.MaxBlock-4)))
	wantNoPack(t, []byte("\x41\x1f\xc9\x07"+strings.Repeat("v", api.MaxBlock-3)))
}

// How many of all bytes of these lengths are headers was counted by hand: six entries have a byte of their own; and so on.
func TestUnpackOfAllShortBytes(t *testing.T) {
	for length, want := range []int{0, 6, 6*6 + 3 + 6, 6*6*6 + 2*6*(3+6) + 3 + 6*95 + 10} {
		count := 0
		for n := range 1 << (8 * length) {
			if length == 3 && !begins(byte(n)) {
				continue
			}
			b := []byte{byte(n), byte(n >> 8), byte(n >> 16)}[:length]
			l, e := Unpack(b)
			if e == api.OK && len(l) > 0 {
				count++
			} else if e != api.ErrPack || len(l) > 0 {
				t.Fatalf("P4: Unpack(%q) = %q, %d", b, l, e)
			}
		}
		if count != want {
			t.Errorf("P4: of all of %d bytes %d are headers, want %d", length, count, want)
		}
	}
}

// begins leaves out the first bytes that two bytes have shown to be none, as all of three take seconds.
func begins(first byte) bool {
	return first>>3 == 16 || first>>3 == 8 || first == 0
}
