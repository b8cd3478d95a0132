package tests

import (
	"hash/fnv"
	"math/big"
	"strings"
	"testing"

	"loop.example/kilnyard/impl"
)

// yardTagByRules is a second reading of a tag, with numbers that do not wrap by themselves.
func yardTagByRules(body, key string) string {
	if len(key) > 30 {
		return ""
	}
	sum, times := new(big.Int), big.NewInt(1099511628211)
	sum.SetString("14695981039346656037", 10)
	whole := new(big.Int).Lsh(big.NewInt(1), 64)
	for _, b := range []byte(key + "\x00" + body) {
		sum.Xor(sum, big.NewInt(int64(b)))
		sum.Mod(sum.Mul(sum, times), whole)
	}
	return string(sum.FillBytes(make([]byte, 8)))
}

// wantTag holds Tag against the second reading.
func wantTag(t *testing.T, body, key string) string {
	t.Helper()
	got, want := impl.YardTag(body, key), yardTagByRules(body, key)
	if got != want {
		t.Errorf("%.100q under %.100q: got %x, want %x", body, key, got, want)
	}
	return got
}

func TestYardTagConstants(t *testing.T) {
	if impl.YardMaxKey != 30 {
		t.Error(impl.YardMaxKey)
	}
}

func TestYardTag(t *testing.T) {
	// By hand: of the one byte 0, this is the first number times the second.
	if got := wantTag(t, "", ""); got != "\xaf\x63\xbd\x4c\x86\x01\xb7\xdf" {
		t.Errorf("%x", got)
	}
	if got := wantTag(t, "body", "k"); got != "\x6b\x89\xc9\xf3\x3f\x3c\xac\x52" {
		t.Errorf("%x", got)
	}
	texts := []string{"", "a", "b", "ab", "ba", "\x00", "\x00\x00", "a\x00", "\x00a", "\x7f", "\x80", "\xff", "\xff\xff", "é", "\"", "\n", "offer 1", strings.Repeat("x", 29), strings.Repeat("\xff", 30), strings.Repeat("\x00", 30)}
	tags := map[string]string{}
	for _, key := range texts {
		for _, body := range append(texts, strings.Repeat("x", 100000)) {
			got := wantTag(t, body, key)
			h := fnv.New64a()
			h.Write([]byte(key + "\x00" + body))
			if len(got) != 8 || got != string(h.Sum(nil)) {
				t.Errorf("%.100q under %q: %x", body, key, got)
			}
			if what, there := tags[got]; there && what != key+"\x00"+body {
				t.Errorf("%q and %q: %x", what, key+"\x00"+body, got)
			}
			tags[got] = key + "\x00" + body
		}
	}
	// Where the key ends can't be told from a byte 0 of the body.
	if wantTag(t, "\x00b", "k") != wantTag(t, "b", "k\x00") || wantTag(t, "\x00", "") != wantTag(t, "", "\x00") {
		t.Error("the key, one byte 0 and the body")
	}
	if wantTag(t, "b", "k") == wantTag(t, "kb", "") || wantTag(t, "b", "k") == wantTag(t, "k", "b") {
		t.Error("key and body are told apart")
	}
}

func TestYardTagKeys(t *testing.T) {
	for _, piece := range []string{"k", "\x00", "\x80", "\xff", " "} {
		for size := range 100 {
			got := wantTag(t, "body", strings.Repeat(piece, size))
			if size <= 30 && len(got) != 8 || size > 30 && got != "" {
				t.Errorf("a key of %d bytes: %x", size, got)
			}
		}
	}
	// Bytes are counted, not runes.
	if wantTag(t, "", strings.Repeat("é", 15)) == "" || wantTag(t, "", strings.Repeat("é", 16)) != "" {
		t.Error("runes")
	}
	if wantTag(t, "", strings.Repeat("k", 1000000)) != "" {
		t.Error("a long key")
	}
}

// A tag has all of its bytes, also where the highest, or the lowest, are 0.
func TestYardTagZeros(t *testing.T) {
	high, low, both := 0, 0, 0
	for i := 0; i < 300000 && (high == 0 || low == 0 || both < 2); i++ {
		// The bytes behind carry what the first ones are up to the highest of the sum.
		body := string([]byte{byte(i >> 16), byte(i >> 8), byte(i)}) + "behind"
		got := impl.YardTag(body, "key")
		if len(got) != 8 {
			t.Fatalf("%q: %x", body, got)
		}
		if strings.HasPrefix(got, "\x00\x00") {
			high++
			wantTag(t, body, "key")
		}
		if strings.HasSuffix(got, "\x00\x00") {
			low++
			wantTag(t, body, "key")
		}
		if got[0] == 0 && got[7] == 0 {
			both++
			wantTag(t, body, "key")
		}
	}
	if high == 0 || low == 0 || both == 0 {
		t.Error(high, low, both)
	}
}

// Each byte of a body and each of a key counts, by each of its bits.
func TestYardTagBits(t *testing.T) {
	body, key := "turn 2 1 3 n 2\nlook 3 \"\"\n", "a key\xff\x00"
	first := wantTag(t, body, key)
	bent := func(text string, at, bit int) string {
		bytes := []byte(text)
		bytes[at] ^= 1 << bit
		return string(bytes)
	}
	for bit := range 8 {
		for at := range len(body) {
			if wantTag(t, bent(body, at, bit), key) == first {
				t.Errorf("bit %d of byte %d of the body", bit, at)
			}
		}
		for at := range len(key) {
			if wantTag(t, body, bent(key, at, bit)) == first {
				t.Errorf("bit %d of byte %d of the key", bit, at)
			}
		}
	}
}

func TestYardTagDrawn(t *testing.T) {
	dice := clayDice(2501)
	drawn := func(most int) string {
		bytes := make([]byte, dice.below(most))
		for i := range bytes {
			bytes[i] = byte(dice.below(256))
		}
		return string(bytes)
	}
	empty := 0
	for range 3000 {
		if wantTag(t, drawn(60), drawn(34)) == "" {
			empty++
		}
	}
	if empty < 100 || empty > 1000 {
		t.Error(empty)
	}
}

func TestYardTagOwnMemory(t *testing.T) {
	body, key := string([]byte("a body")), string([]byte("a key"))
	tag := impl.YardTag(body, key)
	wantNewMemory(t, struct{ First, Second string }{tag, impl.YardTag(body, key)}, body, key)
	if body != "a body" || key != "a key" {
		t.Error("changed")
	}
}

func FuzzYardTag(f *testing.F) {
	f.Add("body", "k")
	f.Add("\x00", "\x00")
	f.Fuzz(func(t *testing.T, body, key string) { wantTag(t, body, key) })
}
