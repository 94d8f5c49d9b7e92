package envelope_test

import (
	"bytes"
	"reflect"
	"testing"

	"bursary/api"
	"bursary/envelope"
	"bursary/gcm"
	"bursary/hkdf"
	"bursary/hmac"
	"bursary/keyring"
	"bursary/testcode"
)

// boxed are bytes, sealed with a key for a use.
func boxed(t *testing.T, key []byte, use string, n uint32, number, plain []byte, beside string) []byte {
	t.Helper()
	used, err := hkdf.Key(key, use, n)
	if err != nil {
		t.Fatal(err)
	}
	k, err := gcm.New(used)
	if err != nil {
		t.Fatal(err)
	}
	box, err := k.Seal(number, plain, []byte(beside))
	if err != nil {
		t.Fatal(err)
	}
	return box
}

func rotated(t *testing.T, r keyring.Ring, seed uint32) keyring.Ring {
	t.Helper()
	next, err := keyring.Rotate(r, [32]byte(testcode.Some(32, seed)))
	if err != nil {
		t.Fatal(err)
	}
	return next
}

// TestEV1 seals the root key, and opens it, and does not.
func TestEV1(t *testing.T) {
	unseal, root := testcode.Some(32, 1), testcode.Some(32, 2)
	want := boxed(t, unseal, "envelope", 0x01020304, []byte{1, 2, 3, 4, 0, 0, 0, 0, 0, 0, 0, 0}, root, "core/envelope")
	box, err := envelope.Seal(unseal, root, 0x01020304)
	if err != nil || !bytes.Equal(box, want) || len(box) != 48 {
		t.Fatalf("Seal: %x %v", box, err)
	}
	if got, err := envelope.Open(unseal, box, 0x01020304); err != nil || !bytes.Equal(got, root) {
		t.Errorf("Open: %x %v", got, err)
	}
	short := boxed(t, unseal, "envelope", 7, []byte{0, 0, 0, 7, 0, 0, 0, 0, 0, 0, 0, 0}, root[:31], "core/envelope")
	turned := bytes.Clone(box)
	turned[47] ^= 1
	for name, c := range map[string]struct {
		unseal, box []byte
		gen         uint32
		want        api.Errno
	}{
		"another key": {testcode.Some(32, 3), box, 0x01020304, api.ErrKey}, "another generation": {unseal, box, 0x01020305, api.ErrKey},
		"a bit turned": {unseal, turned, 0x01020304, api.ErrKey}, "cut": {unseal, box[:47], 0x01020304, api.ErrKey},
		"longer": {unseal, append(bytes.Clone(box), 0), 0x01020304, api.ErrKey}, "nothing": {unseal, nil, 1, api.ErrKey},
		"a root key of 31": {unseal, short, 7, api.ErrKey}, "a key of 31": {unseal[:31], box, 0x01020304, api.ErrArg},
		"a key of 33": {testcode.Some(33, 1), nil, 1, api.ErrArg},
	} {
		if got, err := envelope.Open(c.unseal, c.box, c.gen); got != nil || testcode.Of(err) != c.want {
			t.Errorf("Open, %s: %x %v", name, got, err)
		}
	}
	for _, n := range []int{0, 31, 33} {
		_, err1 := envelope.Seal(testcode.Some(n, 1), root, 1)
		_, err2 := envelope.Seal(unseal, testcode.Some(n, 1), 1)
		if testcode.Of(err1) != api.ErrArg || testcode.Of(err2) != api.ErrArg {
			t.Errorf("Seal with keys of %d: %v %v", n, err1, err2)
		}
	}
}

// TestEV2 seals rings, and opens them, and does not.
func TestEV2(t *testing.T) {
	root, r := testcode.Some(32, 2), keyring.First([32]byte(testcode.Some(32, 3)))
	plain, _ := keyring.Encode(r)
	key, _ := hkdf.Key(root, "ring-nonce", 0)
	sum := hmac.Mac(key, plain)
	want := append(bytes.Clone(sum[:12]), boxed(t, root, "ring", 0, sum[:12], plain, "core/ring")...)
	box, err := envelope.SealRing(root, r)
	if err != nil || !bytes.Equal(box, want) || len(box) != 63 {
		t.Fatalf("SealRing: %x %v", box, err)
	}
	if got, err := envelope.OpenRing(root, box); err != nil || !reflect.DeepEqual(got, r) {
		t.Errorf("OpenRing: %v %v", got, err)
	}
	none := append(make([]byte, 12), boxed(t, root, "ring", 0, make([]byte, 12), []byte("kr\x00"), "core/ring")...)
	for i := range box {
		turned := bytes.Clone(box)
		turned[i] ^= 1
		if got, err := envelope.OpenRing(root, turned); got.L != nil || testcode.Of(err) != api.ErrIntegrity {
			t.Fatalf("byte %d turned: %v", i, err)
		}
	}
	for name, c := range map[string]struct {
		root, box []byte
		want      api.Errno
	}{
		"another key": {testcode.Some(32, 9), box, api.ErrIntegrity}, "27 bytes": {root, box[:27], api.ErrIntegrity}, "nothing": {root, nil, api.ErrIntegrity},
		"cut": {root, box[:62], api.ErrIntegrity}, "no ring's bytes": {root, none, api.ErrIntegrity}, "long": {root, make([]byte, 4000), api.ErrIntegrity},
		"a key of 31": {root[:31], box, api.ErrArg}, "a key of 33": {testcode.Some(33, 1), nil, api.ErrArg},
	} {
		if got, err := envelope.OpenRing(c.root, c.box); got.L != nil || testcode.Of(err) != c.want {
			t.Errorf("OpenRing, %s: %v", name, err)
		}
	}
	for name, err := range map[string]error{
		"no ring": second(envelope.SealRing(root, keyring.Ring{})), "a key of 31": second(envelope.SealRing(root[:31], r)),
		"no key": second(envelope.SealRing(nil, r)),
	} {
		if testcode.Of(err) != api.ErrArg {
			t.Errorf("SealRing, %s: %v", name, err)
		}
	}
}

func second(_ []byte, err error) error { return err }

// TestEV3: what was sealed is opened by the same key, rings of all sizes, and keys of all generations.
func TestEV3(t *testing.T) {
	root, r := testcode.Some(32, 2), keyring.First([32]byte(testcode.Some(32, 3)))
	nonces := map[string]bool{}
	for n := 1; n <= 16; n++ {
		box, err := envelope.SealRing(root, r)
		if err != nil || len(box) != 12+3+32*n+16 {
			t.Fatal(err)
		}
		nonces[string(box[:12])] = true
		if got, err := envelope.OpenRing(root, box); err != nil || !reflect.DeepEqual(got, r) {
			t.Fatalf("%d terms: %v %v", n, got, err)
		}
		if n < 16 {
			r = rotated(t, r, uint32(n))
		}
	}
	if len(nonces) != 16 {
		t.Errorf("%d unlike nonces", len(nonces))
	}
	for gen := uint32(0); gen < 1<<31; gen = gen*3 + 1 {
		box, err := envelope.Seal(testcode.Some(32, gen), root, gen)
		if err != nil {
			t.Fatal(err)
		}
		if got, err := envelope.Open(testcode.Some(32, gen), box, gen); err != nil || !bytes.Equal(got, root) {
			t.Fatalf("generation %d: %x %v", gen, got, err)
		}
		if gen > 1<<29 {
			break
		}
	}
}
