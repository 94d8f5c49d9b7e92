package house_test

import (
	"fmt"
	"slices"
	"strings"
	"testing"

	"bursary/ceremony"
	"bursary/config"
	"bursary/frame"
	"bursary/gf"
	"bursary/house"
	"bursary/table"
	"bursary/wire"
)

// read are the bytes of digits.
func read(s string) []byte {
	var b []byte
	for i := 0; i+1 < len(s); i += 2 {
		var x byte
		fmt.Sscanf(s[i:i+2], "%02x", &x)
		b = append(b, x)
	}
	return b
}

// from are the lines that begin so.
func from(l []string, prefix string) []string {
	return slices.DeleteFunc(slices.Clone(l), func(s string) bool { return !strings.HasPrefix(s, prefix) })
}

// TestP1 holds what lies on the disk of a new vault against the layers' words, byte by byte, and what is answered.
func TestP1(t *testing.T) {
	draws := bytesOf(128, 1)
	m, err := ceremony.Init(gf.New(), 2, 3, read(draws))
	if err != nil {
		t.Fatal(err)
	}
	c, _ := config.Encode(m.Config)
	ops, _ := table.EncodeOps([]table.Op{{Name: "core/config", Data: c}, {Name: "core/envelope", Data: m.Envelope}, {Name: "core/ring", Data: m.Ring}, {Name: "core/clock", Data: wire.Number(5)}})
	var want []string
	for i, record := range []string{"S\x00\x00", "B" + string(ops)} {
		l, err := frame.Split(uint32(i+1), []byte(record))
		if err != nil {
			t.Fatal(err)
		}
		for _, s := range l {
			want = append(want, fmt.Sprintf("sector %d %x", len(want), s))
		}
	}
	got := play(t, "disk 100", "open 5", "draw "+draws, "do init - n2 n3", "sectors")
	if parts := strings.Fields(got[3]); len(parts) != 5 || parts[0] != "code" || parts[1] != "0" || !strings.HasPrefix(parts[4], "73680000000103") || len(parts[4]) != 80 {
		t.Errorf("three parts: %q", got[3])
	}
	if !slices.Equal(got[4:], want) {
		t.Errorf("%q, not %q", got[4:], want)
	}
	// The same is told of the same.
	lines := with("do put kv/a tx n0", "tick 3", "do rotate -", "sectors", "journal", "show")
	if a, b := play(t, lines...), play(t, lines...); !slices.Equal(a, b) {
		t.Error("played twice it is another one")
	}
}

// TestP2: what is refused changes nothing but the log.
func TestP2(t *testing.T) {
	state := func(l []string) []string {
		return slices.DeleteFunc(l, func(s string) bool {
			return !strings.HasPrefix(s, "policy") && !strings.HasPrefix(s, "token") && !strings.HasPrefix(s, "secret") && !strings.HasPrefix(s, "lease")
		})
	}
	before := with("do put kv/a tx n0", "do policy-put pol t", "draw "+bytesOf(22, 5), "do token-create - tpol n50 n0", "keep 0 poor")
	want := state(play(t, append(before, "show")...))
	for line, code := range map[string]string{
		"do put kv/a ty n0": "code 20", "do put a/b ty n0": "code 4", "do put kv/a t" + strings.Repeat("x", 101) + " n1": "code 1", "do get kv/a n7": "code 5", "do get kv/none n0": "code 5", "do policy-put root t": "code 4",
		"do policy-put pol tx": "code 4", "do token-create - tnone n0 n0": "code 5", "do token-create - tpol n0 n0": "code 2", "do token-revoke - tnone": "code 17", "do lease-issue kv/a n0": "code 2",
		"do lease-revoke - tnone": "code 5", "do rotate -": "code 2", "do rekey-share - t t": "code 15", "do init - n2 n3": "code 24", "do unseal - $a": "code 10", "do root-share - t t": "code 15", "do seal p": "code 4",
	} {
		got := play(t, append(before, line, "show")...)
		if got[len(before)] != code || !slices.Equal(state(got), want) {
			t.Errorf("%s: %s: %q, not %q", line, got[len(before)], state(got), want)
		}
	}
	for _, line := range []string{"do put kv/a ty n1", "do get kv/a n0", "do policy-del pol", "do seal -", "do list kv"} {
		got := play(t, append(before, "as $poor", line, "show")...)
		if got[len(before)+1] != "code 16" || !slices.Equal(state(got), want) {
			t.Errorf("denied, %s: %s", line, got[len(before)+1])
		}
	}
}

// TestP3 goes down at each step of a script: the server comes back with the state ahead of what was not answered, or behind it.
func TestP3(t *testing.T) {
	asked := []string{
		"do put kv/a tone n0", "do policy-put pol tkv/*=read", "do policy-put pol x" + digits("kv/* = read"), "draw " + bytesOf(22, 7), "do token-create - tpol n60 n0", "draw " + bytesOf(32, 8), "do rotate -", "do put kv/b ttwo n0",
		"do delete kv/a n0", "draw " + bytesOf(40, 9), "do rekey-start - n2 n2", "keep 0 again", "do rekey-share - $again $b", "do put kv/a tthree n1",
	}
	// What the state is behind each of them.
	var states []string
	for n := range len(asked) + 1 {
		l := play(t, with(append(slices.Clone(asked[:n]), "open 0", "do unseal - $a", "do unseal - $b", "show")...)...)
		at := slices.IndexFunc(l, func(s string) bool { return strings.HasPrefix(s, "server") })
		if at < 0 || !strings.HasPrefix(l[at], "server 1 0 0") {
			t.Fatalf("behind %d: %q", n, l)
		}
		states = append(states, strings.Join(l[at+1:], "\n"))
	}
	for step := 1; ; step++ {
		armed := with(append([]string{fmt.Sprintf("arm %d", step)}, asked...)...)
		told := play(t, armed...)
		down := slices.Index(told, "code 23")
		if down < 0 {
			if step < 20 {
				t.Fatalf("%d steps", step)
			}
			return
		}
		n := down - len(begun()) - 1 // of those that were asked, and answered
		for _, keep := range []string{"-", "1", "01", "101", "0111", "11111111", "1110", "0001"} {
			l := play(t, append(slices.Clone(armed), "crash "+keep, "open 0", "show", "do unseal - $c", "do unseal - $a", "show")...)
			back := from(l, "server 1 1 0")
			at := slices.IndexFunc(l, func(s string) bool { return strings.HasPrefix(s, "server 1 0 0") })
			if len(back) != 1 || at < 0 {
				t.Fatalf("step %d, kept %s: %q", step, keep, l[len(armed):])
			}
			got := strings.Join(l[at+1:], "\n")
			if got != states[n] && got != states[n+1] {
				t.Fatalf("step %d, kept %s: %s, not %s or %s", step, keep, got, states[n], states[n+1])
			}
		}
	}
}

// TestP4: K parts open the vault, in any order, and fewer don't.
func TestP4(t *testing.T) {
	lines := []string{"disk 100", "open 5", "draw " + bytesOf(160, 3), "do init - n3 n4"}
	for i := range 4 {
		lines = append(lines, fmt.Sprintf("keep %d p%d", i, i))
	}
	for i := range 256 {
		order := []int{i & 3, i >> 2 & 3, i >> 4 & 3, i >> 6 & 3}
		handed := slices.Clone(lines)
		var seen []int
		for _, p := range order {
			handed = append(handed, fmt.Sprintf("do unseal - $p%d", p), "show")
			if !slices.Contains(seen, p) {
				seen = append(seen, p)
			}
			got := play(t, handed...)
			if open := slices.ContainsFunc(got, func(s string) bool { return strings.HasPrefix(s, "server 1 0 0") }); open != (len(seen) >= 3) {
				t.Fatalf("parts %v: open %v", order, open)
			}
		}
	}
	// Parts of another vault, and of none.
	got := play(t, append(lines, "do unseal - $p0", "do unseal - $p1", "do unseal - x7368000000010"+"420"+strings.Repeat("00", 32), "show")...)
	if got[len(got)-2] != "code 13" || last(got) != "server 1 1 0 5" {
		t.Errorf("a part that is none: %q", got[len(got)-2:])
	}
}

// TestP5: bytes of a secret are answered just if the vault is open, who asks is there, and its policies allow it.
func TestP5(t *testing.T) {
	base := with("do put kv/open tsecret n0", "do put kv/shut tsecret n0", "do policy-put some x"+digits("kv/* = read list"), "do policy-put shut x"+digits("kv/shut = deny"),
		"draw "+bytesOf(44, 5), "do token-create - tsome n50 n0", "keep 0 one", "do token-create - tsome,shut n50 n0", "keep 0 both")
	secret := " " + digits("secret") + " "
	for name, c := range map[string]struct {
		lines []string
		want  bool
	}{
		"root":                      {[]string{"do get kv/shut n0"}, true},
		"by a policy":               {[]string{"as $one", "do get kv/shut n0"}, true},
		"by two":                    {[]string{"as $both", "do get kv/open n0"}, true},
		"what denies wins":          {[]string{"as $both", "do get kv/shut n0"}, false},
		"nobody":                    {[]string{"as -", "do get kv/open n0"}, false},
		"somebody else":             {[]string{"as t" + strings.Repeat("0", 32), "do get kv/open n0"}, false},
		"over":                      {[]string{"as $one", "tick 50", "do get kv/open n0"}, false},
		"not over yet":              {[]string{"as $one", "tick 49", "do get kv/open n0"}, true},
		"sealed":                    {[]string{"do seal -", "do get kv/open n0"}, false},
		"opened anew, not yet open": {[]string{"open 0", "do get kv/open n0"}, false},
		"opened anew":               {[]string{"open 0", "do unseal - $a", "do unseal - $b", "as $one", "do get kv/open n0"}, true},
		"the policy is gone":        {[]string{"do policy-del some", "as $one", "do get kv/open n0"}, false},
		"the token is gone":         {[]string{"as $one", "do token-self -", "keep 0 acc", "as $root", "do token-revoke - $acc", "as $one", "do get kv/open n0"}, false},
		"it may not write":          {[]string{"as $one", "do put kv/open tx n1", "do get kv/open n2"}, false},
	} {
		got := last(play(t, append(base, c.lines...)...))
		if strings.Contains(got+" ", secret) != c.want || c.want != strings.HasPrefix(got, "code 0") {
			t.Errorf("%s: %s", name, got)
		}
	}
}

// boxes are all entries that are sealed in the journal of some sectors' lines.
func boxes(t *testing.T, l []string) []string {
	t.Helper()
	sectors := map[int][]byte{}
	for _, line := range from(l, "sector ") {
		var n int
		var s string
		fmt.Sscanf(line, "sector %d %s", &n, &s)
		sectors[n] = read(s)
	}
	var out []string
	for half := range 2 {
		var list [][]byte
		for i := half * 300; i < half*300+300; i++ {
			s := sectors[i]
			if s == nil {
				s = make([]byte, 64)
			}
			list = append(list, s)
		}
		for len(list) > 0 {
			_, b, n, err := frame.Join(list)
			if err != nil {
				list = list[1:]
				continue
			}
			list = list[n:]
			ops, err := table.DecodeOps(b[1:])
			if err != nil {
				t.Fatal(err)
			}
			for _, o := range ops {
				if !strings.HasPrefix(o.Name, "core/") && !o.Del {
					out = append(out, string(o.Data))
				}
			}
		}
	}
	return out
}

// TestP6: no nonce comes twice, whatever crash comes, and what was tampered with is not read as something else.
func TestP6(t *testing.T) {
	sealed := map[string]string{}
	lines := begun()
	for round := range 12 {
		lines = append(lines, fmt.Sprintf("do put kv/a tv%d n18446744073709551615", round), fmt.Sprintf("arm %d", 3+round), "do put kv/b tw n18446744073709551615", "do put kv/c tw n18446744073709551615",
			"do put kv/d tw n18446744073709551615", "crash "+[]string{"-", "1", "111111", "0101"}[round%4], "open 0", "do unseal - $a", "do unseal - $b")
		for _, box := range boxes(t, play(t, append(lines, "sectors")...)) {
			if other, ok := sealed[box[:12]]; ok && other != box {
				t.Fatalf("round %d: the nonce %x sealed two", round, box[:12])
			}
			sealed[box[:12]] = box
		}
	}
	if len(sealed) < 50 {
		t.Errorf("%d nonces", len(sealed))
	}
	base := with("do put kv/a tsecret n0")
	dump := from(play(t, append(base, "sectors")...), "sector ")
	for i, line := range dump {
		s := strings.Fields(line)[2]
		for _, at := range []int{0, 9, 20, 40, 64, 90, 127} {
			turned := s[:at] + string("0123456789abcdef"[(strings.IndexByte("0123456789abcdef", s[at])+1)%16]) + s[at+1:]
			got := play(t, append(base, fmt.Sprintf("tamper %d %s", i, turned), "open 0", "do unseal - $a", "do unseal - $b", "do get kv/a n0")...)
			answer := last(got)
			if strings.HasPrefix(answer, "code 0 ") && !strings.Contains(answer, digits("secret")) {
				t.Errorf("sector %d, digit %d: %s", i, at, answer)
			}
		}
	}
}

// TestFirstLimit: a term has 2^40 nonces, where no other limit was told.
func TestFirstLimit(t *testing.T) {
	base := begun()
	// The mark's bytes stand behind its name, and how many there are, in the record's sector.
	ahead := digits("core/mark\x00\x0c\x00\x00\x00\x01")
	var at int
	var sector string
	for _, line := range from(play(t, append(base, "sectors")...), "sector ") {
		if w := strings.Fields(line); strings.Contains(w[2], ahead) {
			fmt.Sscanf(w[1], "%d", &at)
			sector = w[2]
		}
	}
	for mark, want := range map[uint64]string{1<<40 + 1: "code 11", 1 << 40: "code 8", 1<<40 - 3: "code 0 " + num(1)} {
		begin, _, _ := strings.Cut(sector, ahead)
		other := begin + ahead + num(mark) + sector[len(begin)+len(ahead)+16:]
		got := play(t, append(base, fmt.Sprintf("tamper %d %s", at, other), "open 0", "do unseal - $a", "do unseal - $b", "do put kv/a tx n0")...)
		if mark > 1<<40 {
			got = got[:len(got)-1]
		}
		if last(got) != want {
			t.Errorf("a mark of %d: %s", mark, last(got))
		}
	}
}

// TestP7: what is over stays over, leases end no later than their tokens, and what came of a token goes with it.
func TestP7(t *testing.T) {
	base := with("do policy-put pol x"+digits("* = read write delete"), "draw "+bytesOf(120, 5), "do token-create - tpol n20 n0", "keep 0 one", "keep 1 oneacc", "as $one", "do token-create - tpol n90 n0", "keep 0 two",
		"do lease-issue kv/a n90", "as $two", "do lease-issue kv/b n0")
	got := play(t, append(base, "show")...)
	if leases := from(got, "lease "); len(leases) != 2 || !strings.HasSuffix(leases[0], " 25 25") || !strings.HasSuffix(leases[1], " 25 25") {
		t.Errorf("leases: %q", leases)
	}
	for name, lines := range map[string][]string{
		"over":                {"tick 20", "show"},
		"over, opened anew":   {"open 25", "do unseal - $a", "do unseal - $b", "show"},
		"over, at a crash":    {"tick 20", "as $root", "do token-self -", "crash -", "open 0", "do unseal - $a", "do unseal - $b", "show"},
		"revoked":             {"as $root", "do token-revoke - $oneacc", "show"},
		"revoked, and a tick": {"as $root", "do token-revoke - $oneacc", "tick 1", "show"},
	} {
		got := play(t, append(base, lines...)...)
		if tokens := from(got, "token "); len(tokens) != 1 || len(from(got, "lease ")) != 0 {
			t.Errorf("%s: %q", name, tokens)
		}
	}
	got = play(t, append(base, "tick 19", "as $one", "do token-renew - n50", "show")...)
	if tokens := from(got, "token "); len(tokens) != 3 {
		t.Errorf("not over yet: %q", tokens)
	}
	got = play(t, append(base, "tick 20", "as $one", "do token-renew - n50")...)
	if last(got) != "code 17" {
		t.Errorf("what is over is renewed: %s", last(got))
	}
}

// TestP8: each request that somebody asked is in the log, with what is secret as a sum alone.
func TestP8(t *testing.T) {
	lines := with("do put kv/a tverysecret n0", "do get kv/a n0", "do put kv/a tx n0", "as tnobody", "do get kv/a n0", "do status -", "as $root", "do root-start -", "do list kv", "journal")
	got := from(play(t, lines...), "entry ")
	ops := []string{"1b", "05", "06", "05", "0a"}
	codes := []string{"0000", "0000", "0000", "0014", "0000"}
	if len(got) != len(ops) {
		t.Fatalf("%d entries", len(got))
	}
	for i, line := range got {
		if !strings.HasPrefix(line, "entry 6175"+num(uint64(i+1))+num(5)+ops[i]) || i > 0 && !strings.Contains(line, codes[i]) {
			t.Errorf("entry %d: %s", i, line)
		}
		if strings.Contains(line, digits("verysecret")) {
			t.Errorf("entry %d tells what is secret", i)
		}
	}
	if told := last(play(t, lines...)); told != "leads 1" {
		t.Errorf("the log: %s", told)
	}
	for n := range 65 {
		lines := begun()
		for range n {
			lines = append(lines, "do token-self -")
		}
		l := play(t, append(lines, "journal")...)
		if len(from(l, "entry ")) != min(n+1, 64) || last(l) != "leads 1" || n == 64 && l[len(lines)-1] != "code 22" {
			t.Errorf("%d requests: %d entries", n, len(from(l, "entry ")))
		}
	}
}

// TestP9: policies, versions and paths through a whole script; the layers' own tests tell the rest.
func TestP9(t *testing.T) {
	lines := begun()
	for i := range 10 {
		lines = append(lines, fmt.Sprintf("do put kv/a/b/c/d/e tv%d n%d", i, i))
	}
	got := play(t, append(lines, "do get kv/a/b/c/d/e n2", "do get kv/a/b/c/d/e n3", "do get kv/a/b/c/d/e n0", "do put kv/a/b/c/d/e/f tx n0", "do list kv/a", "do policy-put pol x"+digits("kv/+ = read\nkv/+ = list\n"), "do destroy kv/a/b/c/d/e n10", "do undelete kv/a/b/c/d/e n10")...)
	want := []string{"code 5", "code 0 " + num(3) + " " + digits("v2") + " " + num(5), "code 0 " + num(10) + " " + digits("v9") + " " + num(5), "code 4", "code 0 " + digits("kv/a/b/c/d/e"), "code 18", "code 0", "code 21"}
	if tail := got[len(got)-8:]; !slices.Equal(tail, want) {
		t.Errorf("%q, not %q", tail, want)
	}
}

// TestP10 plays texts of all kinds: each ends, none panics, and played twice it tells the same.
func TestP10(t *testing.T) {
	seed := uint32(77)
	draw := func(n int) int {
		seed = seed*1664525 + 1013904223
		return int(seed>>12) % n
	}
	one := func(l ...string) string { return l[draw(len(l))] }
	ops := []string{"init", "unseal", "seal", "status", "put", "get", "delete", "undelete", "destroy", "list", "policy-put", "policy-get", "policy-del", "token-create", "token-renew", "token-revoke", "token-self", "lease-issue",
		"lease-renew", "lease-revoke", "lease-prefix", "rotate", "rekey-start", "rekey-share", "rekey-cancel", "root-start", "root-share", "root-cancel", "audit-head", "none"}
	value := func() string {
		return one("n0", "n1", "n2", "n18446744073709551615", "$a", "$b", "$c", "$k0", "$k1", "t", "tpol", "troot", "x00", "-", "$mark", "$root", "t"+strings.Repeat("x", draw(150)))
	}
	command := func() string {
		switch draw(12) {
		case 0:
			return fmt.Sprintf("%s %d", one("disk", "limit", "open", "arm", "tick"), draw(1<<draw(12)))
		case 1:
			return one("crash -", "crash 1", "crash 0101", "open 0", "do unseal - $a", "do unseal - $b", "show", "sectors", "journal")
		case 2:
			return fmt.Sprintf("tamper %d %s", draw(700), one("-", "00", "ff01", "zz", bytesOf(64, seed)))
		case 3:
			return "draw " + one("-", bytesOf(draw(200), seed), "0")
		case 4:
			return "as " + one("$root", "-", "$k0", "tnobody")
		case 5:
			return fmt.Sprintf("keep %d %s", draw(3), one("k0", "k1", "mark"))
		}
		line := "do " + one(ops...) + " " + one("-", "kv/a", "kv/b", "kv", "pol", "+", "a//b")
		for range draw(4) {
			line += " " + value()
		}
		return line
	}
	for range 300 {
		lines := begun()
		if draw(6) == 0 {
			lines = nil
		}
		for range draw(60) {
			lines = append(lines, command())
		}
		s := strings.Join(lines, "\n")
		a, n, err := house.Play(s)
		b, m, err2 := house.Play(s)
		if a != b || n != m || (err == nil) != (err2 == nil) {
			t.Fatalf("played twice it is another one: %s", s)
		}
		garbled := []byte(s)
		for range draw(5) {
			if len(garbled) > 0 {
				garbled[draw(len(garbled))] = byte(draw(256))
			}
		}
		house.Play(string(garbled))
	}
}
