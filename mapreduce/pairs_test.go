package mapreduce_test

import (
	"encoding/binary"
	"encoding/hex"
	"hash/crc32"
	"hash/fnv"
	"math"
	"slices"
	"strings"
	"testing"

	m "mapreduce/mapreduce"
	"mapreduce/plain"
)

func fromHex(t *testing.T, text string) string {
	t.Helper()
	b, err := hex.DecodeString(strings.ReplaceAll(text, " ", ""))
	if err != nil {
		t.Fatal(err)
	}
	return string(b)
}

// record is one pair as the document lays it out, with the library's sum.
func record(p m.Pair) string {
	b := binary.BigEndian.AppendUint32(nil, uint32(len(p.Key)))
	b = binary.BigEndian.AppendUint32(b, uint32(len(p.Value)))
	b = append(b, p.Key+p.Value...)
	return string(binary.BigEndian.AppendUint32(b, crc32.ChecksumIEEE(b)))
}

// expectDecode is Decode by the library's means: the pairs and why.
func expectDecode(text string) ([]m.Pair, string) {
	var l []m.Pair
	for text != "" {
		if len(text) < 12 {
			return nil, whyAt(m.ErrShort, len(l))
		}
		head := []byte(text[:8])
		k, v := int64(binary.BigEndian.Uint32(head)), int64(binary.BigEndian.Uint32(head[4:]))
		if int64(len(text)) < 12+k+v {
			return nil, whyAt(m.ErrShort, len(l))
		}
		p := m.Pair{Key: text[8 : 8+k], Value: text[8+k : 8+k+v]}
		if text[:12+k+v] != record(p) {
			return nil, whyAt(m.ErrSum, len(l))
		}
		l = append(l, p)
		text = text[12+k+v:]
	}
	return l, "ok"
}

func checkDecode(t *testing.T, text string) {
	t.Helper()
	want, reason := expectDecode(text)
	got, err := m.Decode(text)
	if !slices.Equal(got, want) || why(err) != reason {
		t.Errorf("P3: Decode(%x) = %q, %s, want %q, %s", text, got, why(err), want, reason)
	}
	if err != nil && got != nil {
		t.Errorf("P1: Decode(%x) tells pairs beside an error: %q", text, got)
	}
	if err == nil && m.Encode(got...) != text {
		t.Errorf("P3: Decode(%x) does not encode to the same: %q", text, got)
	}
}

func samplePairs() []m.Pair {
	return []m.Pair{{Key: "a", Value: "b"}, {}, {Key: "\x00\xff", Value: strings.Repeat("v", 300)}, {Value: "only"}, {Key: "only"}}
}

func TestExample1(t *testing.T) {
	if got, want := m.Encode(m.Pair{Key: "a", Value: "b"}), fromHex(t, "00000001 00000001 61 62 9b655367"); got != want {
		t.Errorf("P3: Encode = %x, want %x", got, want)
	}
}

func TestExample2(t *testing.T) {
	text := fromHex(t, "00000001 00000001 61 62 9b655367")
	if l, err := m.Decode(text[:9]); l != nil || why(err) != whyAt(m.ErrShort, 0) {
		t.Errorf("P3: of nine bytes: %q, %s", l, why(err))
	}
	if l, err := m.Decode(strings.Replace(text, "a", "b", 1)); l != nil || why(err) != whyAt(m.ErrSum, 0) {
		t.Errorf("P3: with 61 turned to 62: %q, %s", l, why(err))
	}
	if l, n, at := plain.Decode(text[:9]); l != nil || n != 2 || at != 0 {
		t.Errorf("P3: plain.Decode of nine bytes: %q, %d, %d", l, n, at)
	}
}

func TestExample3(t *testing.T) {
	if a, b, c := m.Part("", 16), m.Part("a", 16), m.Part("a", 0); a != 5 || b != 12 || c != 0 {
		t.Errorf("P4: Part = %d, %d, %d, want 5, 12, 0", a, b, c)
	}
}

func TestEncode(t *testing.T) {
	if got := m.Encode(); got != "" {
		t.Errorf("P3: Encode of none = %x", got)
	}
	want := ""
	for _, p := range samplePairs() {
		if got := m.Encode(p); got != record(p) {
			t.Errorf("P3: Encode(%q) = %x, want %x", p, got, record(p))
		}
		want += record(p)
	}
	if got := m.Encode(samplePairs()...); got != want {
		t.Errorf("P3: Encode of several = %x, want %x", got, want)
	}
	long := m.Pair{Key: strings.Repeat("k", 65537), Value: strings.Repeat("v", 1<<24+2)}
	if got := m.Encode(long); got != record(long) {
		t.Error("P3: Encode of a long pair: lengths of more than two bytes")
	}
}

func TestSumOfEachByte(t *testing.T) {
	for b := range 256 {
		p := m.Pair{Key: string([]byte{byte(b), byte(255 - b)}), Value: string([]byte{byte(b * 7)})}
		if got := m.Encode(p); got != record(p) {
			t.Errorf("P3: the sum of %q: %x, want %x", p, got, record(p))
		}
	}
}

func TestDecodeAtEveryCut(t *testing.T) {
	whole := m.Encode(samplePairs()...)
	for n := range len(whole) + 1 {
		checkDecode(t, whole[:n])
		checkDecode(t, whole[n:])
	}
	if l, err := m.Decode(""); l != nil || err != nil {
		t.Errorf("P3: Decode of nothing = %q, %v", l, err)
	}
}

func TestDecodeWithEveryBitTurned(t *testing.T) {
	whole := m.Encode(samplePairs()...)
	for i := range len(whole) {
		for bit := range 8 {
			b := []byte(whole)
			b[i] ^= 1 << bit
			if l, err := m.Decode(string(b)); err == nil || l != nil {
				t.Errorf("P3: Decode with bit %d of byte %d turned = %q", bit, i, l)
			}
			checkDecode(t, string(b))
		}
	}
}

func TestDecodeOfGreatLengths(t *testing.T) {
	tail := m.Encode(samplePairs()...)
	for _, head := range []string{
		"ffffffff ffffffff", "ffffffff 00000001", "00000001 ffffffff", "80000000 80000000", "7fffffff 7fffffff", "fffffff4 00000000", "00000000 fffffffc", "ffffffff 00000005",
	} {
		text := fromHex(t, head)
		checkDecode(t, text)
		checkDecode(t, text+tail)
		checkDecode(t, tail+text+tail)
		if _, err := m.Decode(tail + text + tail); why(err) != whyAt(m.ErrShort, 5) {
			t.Errorf("P3: a record of lengths %s: %s", head, why(err))
		}
	}
}

func TestDecodeTellsTheFirstBadRecord(t *testing.T) {
	good, bad := record(m.Pair{Key: "a", Value: "b"}), []byte(record(m.Pair{Key: "a", Value: "b"}))
	bad[13] ^= 1
	for _, c := range []struct{ text, want string }{
		{good + string(bad) + good + good[:5], whyAt(m.ErrSum, 1)},
		{good + good + string(bad), whyAt(m.ErrSum, 2)},
		{good + good + good[:11] + string(bad), whyAt(m.ErrSum, 2)},
		{good + string(bad[:13]), whyAt(m.ErrShort, 1)},
		{"\n", whyAt(m.ErrShort, 0)},
	} {
		if l, err := m.Decode(c.text); l != nil || why(err) != c.want {
			t.Errorf("P3: Decode(%x) = %q, %s, want %s", c.text, l, why(err), c.want)
		}
	}
}

func TestPart(t *testing.T) {
	keys := []string{"", "a", "b", "\x00", "\xff", "the key", "\u00e9", strings.Repeat("long ", 1000)}
	for b := range 256 {
		keys = append(keys, string([]byte{byte(b), 'x', byte(b)}))
	}
	for _, key := range keys {
		h := fnv.New32a()
		h.Write([]byte(key))
		for _, n := range []int{1, 2, 3, 7, 16, 1000003, math.MaxInt32, math.MaxInt / 3, math.MaxInt} {
			if got, want := m.Part(key, n), int(int64(h.Sum32())%int64(n)); got != want {
				t.Errorf("P4: Part(%q, %d) = %d, want %d", key, n, got, want)
			}
		}
		for _, n := range []int{0, -1, -16, math.MinInt} {
			if got := m.Part(key, n); got != 0 {
				t.Errorf("P4: Part(%q, %d) = %d, want 0", key, n, got)
			}
		}
	}
}

func TestPairsAreOnlyReadAndNotKept(t *testing.T) {
	pairs := append(make([]m.Pair, 0, 9), samplePairs()...)
	text := m.Encode(pairs...)
	if !slices.Equal(pairs, samplePairs()) || pairs[:9][8] != (m.Pair{}) {
		t.Errorf("P2: Encode changed what it was given: %q", pairs[:9])
	}
	first, _ := m.Decode(text)
	second, _ := m.Decode(text)
	for i := range first[:cap(first)] {
		first[:cap(first)][i] = m.Pair{Key: "mine"}
	}
	if third, _ := m.Decode(text); !slices.Equal(second, samplePairs()) || !slices.Equal(third, samplePairs()) {
		t.Errorf("P2: lists of Decode hang together: %q, %q", second, third)
	}
}
