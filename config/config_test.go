package config_test

import (
	"math"
	"testing"

	"bursary/api"
	"bursary/config"
	"bursary/shamir"
	"bursary/testcode"
)

func of(k, n int, gen uint32) config.Config {
	return config.Config{Plan: shamir.Plan{K: k, N: n, Gen: gen}}
}

// TestCO1 makes configs, and reads them.
func TestCO1(t *testing.T) {
	c, err := config.New(3, 5)
	if err != nil || c != of(3, 5, 1) {
		t.Fatalf("New: %v %v", c, err)
	}
	if b, err := config.Encode(c); err != nil || string(b) != "cf\x03\x05\x00\x00\x00\x01" {
		t.Errorf("the example: %x %v", b, err)
	}
	if b, err := config.Encode(of(2, 255, 0x01020304)); err != nil || string(b) != "cf\x02\xff\x01\x02\x03\x04" {
		t.Errorf("the highest byte first: %x %v", b, err)
	}
	if c, err := config.Decode([]byte("cf\x02\xff\x01\x02\x03\x04")); err != nil || c != of(2, 255, 0x01020304) {
		t.Errorf("the highest byte first: %v %v", c, err)
	}
	if c, err := config.Next(c, 255, 255); err != nil || c != of(255, 255, 2) {
		t.Errorf("Next: %v %v", c, err)
	}
	for _, p := range [][2]int{{1, 5}, {0, 0}, {3, 2}, {2, 256}, {-1, -1}, {math.MaxInt, math.MaxInt}} {
		if c, err := config.New(p[0], p[1]); c != of(0, 0, 0) || testcode.Of(err) != api.ErrArg {
			t.Errorf("New(%v): %v", p, err)
		}
		if c, err := config.Next(of(2, 2, math.MaxUint32), p[0], p[1]); c != of(0, 0, 0) || testcode.Of(err) != api.ErrArg {
			t.Errorf("Next(%v): %v", p, err)
		}
	}
	if c, err := config.Next(of(2, 2, math.MaxUint32), 2, 2); c != of(0, 0, 0) || testcode.Of(err) != api.ErrQuota {
		t.Errorf("no generation any more: %v", err)
	}
	for _, c := range []config.Config{{}, of(2, 2, 0), of(1, 2, 1), of(2, 256, 1)} {
		_, err1 := config.Next(c, 2, 2)
		_, err2 := config.Encode(c)
		for i, err := range []error{config.Check(c), err1, err2} {
			if testcode.Of(err) != api.ErrArg {
				t.Errorf("call %d of %v: %v", i, c, err)
			}
		}
	}
	for _, s := range []string{
		"", "cf\x03\x05\x00\x00\x00", "cf\x03\x05\x00\x00\x00\x01\x00", "xf\x03\x05\x00\x00\x00\x01", "cx\x03\x05\x00\x00\x00\x01",
		"cf\x01\x05\x00\x00\x00\x01", "cf\x06\x05\x00\x00\x00\x01", "cf\x03\x05\x00\x00\x00\x00",
	} {
		if c, err := config.Decode([]byte(s)); c != of(0, 0, 0) || testcode.Of(err) != api.ErrForm {
			t.Errorf("Decode(%q): %v %v", s, c, err)
		}
	}
}

// TestCO2: configs come back, each of a greater generation than that ahead.
func TestCO2(t *testing.T) {
	c, err := config.New(2, 2)
	for n := 2; n <= 255; n++ {
		if err != nil || config.Check(c) != nil {
			t.Fatal(err)
		}
		b, err1 := config.Encode(c)
		back, err2 := config.Decode(b)
		if err1 != nil || err2 != nil || back != c {
			t.Fatalf("%v comes back as %v", c, back)
		}
		gen := c.Plan.Gen
		c, err = config.Next(c, 2+n/3, max(4, n))
		if err != nil || c.Plan.Gen != gen+1 {
			t.Fatalf("behind %d comes %d", gen, c.Plan.Gen)
		}
	}
}
