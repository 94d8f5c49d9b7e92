package sharecode_test

import (
	"bytes"
	"reflect"
	"strings"
	"testing"

	"bursary/api"
	"bursary/shamir"
	"bursary/sharecode"
	"bursary/testcode"
)

var example = shamir.Share{Index: 1, Gen: 7, Data: []byte{6}}

// TestSC1 tells parts as bytes and texts, and reads what is none.
func TestSC1(t *testing.T) {
	want := []byte{0x73, 0x68, 0, 0, 0, 7, 1, 1, 6}
	if b, err := sharecode.Encode(example); err != nil || !bytes.Equal(b, want) {
		t.Fatalf("the example: %x %v", b, err)
	}
	if s, err := sharecode.Text(example); err != nil || s != "736800000007010106" {
		t.Fatalf("the example as a text: %q %v", s, err)
	}
	big := shamir.Share{Index: 255, Gen: 0x01020304, Data: []byte{0xab}}
	if s, err := sharecode.Text(big); err != nil || s != "736801020304ff01ab" {
		t.Fatalf("the highest byte first: %q %v", s, err)
	}
	for name, s := range map[string]shamir.Share{
		"place 0": {Index: 0, Data: []byte{1}}, "no bytes": {Index: 1}, "65 bytes": {Index: 1, Data: make([]byte, 65)},
	} {
		if b, err := sharecode.Encode(s); b != nil || testcode.Of(err) != api.ErrForm {
			t.Errorf("Encode of %s: %x %v", name, b, err)
		}
		if b, err := sharecode.Text(s); b != "" || testcode.Of(err) != api.ErrForm {
			t.Errorf("Text of %s: %q %v", name, b, err)
		}
	}
	for _, text := range []string{
		"", "7", "7368", "73680000000701", "7368000000070100", "736800000007000106", "736900000007010106", "726800000007010106",
		"736800000007010206", "736800000007010006", "7368000000070101060", "73680000000701010606", "73680000000701010g",
		"73680000000701010G", "7368 00000007010106", "736800000007FF0106", "736800000007010106\n", strings.Repeat("73", 500),
		"73680000000701" + "41" + strings.Repeat("00", 65),
	} {
		if s, err := sharecode.Parse(text); testcode.Of(err) != api.ErrForm || !reflect.DeepEqual(s, shamir.Share{}) {
			t.Errorf("Parse(%q): %v %v", text, s, err)
		}
	}
	if _, err := sharecode.Parse("736800000007ff0106"); err != nil {
		t.Errorf("small letters: %v", err)
	}
	if _, err := sharecode.Decode(make([]byte, 8)); testcode.Of(err) != api.ErrForm {
		t.Error("Decode of noughts")
	}
}

// TestSC2 brings parts back, and cuts them short or makes them longer.
func TestSC2(t *testing.T) {
	for size := 1; size <= 64; size++ {
		s := shamir.Share{Index: byte(size), Gen: uint32(size) * 0x03050709, Data: bytes.Repeat([]byte{byte(size)}, size)}
		b, err := sharecode.Encode(s)
		if err != nil {
			t.Fatal(err)
		}
		text, err := sharecode.Text(s)
		if err != nil {
			t.Fatal(err)
		}
		if x, err := sharecode.Decode(b); err != nil || !reflect.DeepEqual(x, s) {
			t.Fatalf("%d bytes back: %v %v", size, x, err)
		}
		if x, err := sharecode.Parse(text); err != nil || !reflect.DeepEqual(x, s) {
			t.Fatalf("a text of %d bytes back: %v %v", size, x, err)
		}
		for n := range b {
			if _, err := sharecode.Decode(b[:n]); testcode.Of(err) != api.ErrForm {
				t.Fatalf("%d bytes cut to %d: %v", size, n, err)
			}
		}
		for n := range text {
			if _, err := sharecode.Parse(text[:n]); testcode.Of(err) != api.ErrForm {
				t.Fatalf("a text of %d cut to %d: %v", size, n, err)
			}
		}
		if _, err := sharecode.Decode(append(b, 0)); testcode.Of(err) != api.ErrForm {
			t.Fatalf("%d bytes and one more: %v", size, err)
		}
		if _, err := sharecode.Parse(text + "00"); testcode.Of(err) != api.ErrForm {
			t.Fatalf("a text of %d and one more: %v", size, err)
		}
	}
}

// TestKept: a part that was read is memory of its own.
func TestKept(t *testing.T) {
	b := []byte{0x73, 0x68, 0, 0, 0, 7, 1, 1, 6}
	s, _ := sharecode.Decode(b)
	s.Data[0] = 9
	_ = append(s.Data, 1)
	if b[8] != 6 {
		t.Error("memory is shared")
	}
}
