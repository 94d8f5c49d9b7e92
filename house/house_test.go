package house_test

import (
	"strconv"
	"strings"
	"testing"

	"bursary/api"
	"bursary/house"
	"bursary/testcode"
)

// play plays lines, and fails unless they are a script: what they tell, line by line.
func play(t *testing.T, lines ...string) []string {
	t.Helper()
	text, n, err := house.Play(strings.Join(lines, "\n"))
	if err != nil {
		t.Fatalf("at %d: %v", n, err)
	}
	return strings.Split(strings.TrimSuffix(text, "\n"), "\n")
}

// tells fails unless each line tells what stands behind its `=>`; `..` stands for any end.
func tells(t *testing.T, text string) {
	t.Helper()
	var lines, want []string
	for line := range strings.SplitSeq(strings.TrimSpace(text), "\n") {
		command, answer, _ := strings.Cut(line, "=>")
		lines = append(lines, command)
		if answer != "" {
			want = append(want, strings.TrimSpace(answer))
		}
	}
	got := play(t, lines...)
	for i := range max(len(got), len(want)) {
		if i >= len(got) || i >= len(want) {
			t.Fatalf("%d lines are told, not %d: %q", len(got), len(want), got)
		}
		begin, open := strings.CutSuffix(want[i], "..")
		if got[i] != want[i] && !(open && strings.HasPrefix(got[i], begin)) {
			t.Errorf("%s: %s", lines[min(i, len(lines)-1)], got[i])
		}
	}
}

// bytesOf are digits of bytes that look drawn, the same for a seed each time.
func bytesOf(n int, seed uint32) string {
	var s strings.Builder
	for range n {
		seed = seed*1664525 + 1013904223
		s.WriteString(strconv.FormatUint(uint64(seed>>24)|0x100, 16)[1:])
	}
	return s.String()
}

// digits are those of a text's bytes.
func digits(s string) string { return testcode.Digits([]byte(s)) }

// num is a number as digits of eight bytes.
func num(n uint64) string { return strings.Repeat("0", 16-len(hex(n))) + hex(n) }

func hex(n uint64) string { return strconv.FormatUint(n, 16) }

// begun are lines of a vault of 2 of 3 parts, that is open, with a root token that asks: a, b and c are the parts.
func begun() []string {
	return []string{
		"disk 600", "open 5", "draw " + bytesOf(128, 1), "do init - n2 n3", "keep 0 a", "keep 1 b", "keep 2 c", "do unseal - $a", "do unseal - $c",
		"draw " + bytesOf(26, 2), "do root-start -", "keep 0 mark", "do root-share - $mark $a", "do root-share - $mark $b", "keep 0 root", "keep 1 accessor", "as $root",
	}
}

// with are lines behind those of a vault that is open; last is what the last line tells.
func with(lines ...string) []string { return append(begun(), lines...) }

func last(l []string) string { return l[len(l)-1] }

// TestHS1 plays texts that are no scripts, and that tell too much.
func TestHS1(t *testing.T) {
	for name, c := range map[string]struct {
		s    string
		want string
		n    int
		err  api.Errno
	}{
		"nothing": {"", "", 0, 0}, "a note": {"# x\n\n", "", 0, 0}, "the example": {"do status -", "error 1\n", 0, 0}, "no command": {"show\nnone", "", 2, api.ErrScript},
		"too long": {strings.Repeat("#", 65537), "", 0, api.ErrLong}, "two": {"disk 4\nshow", "ok\nerror 1\n", 0, 0},
	} {
		text, n, err := house.Play(c.s)
		if text != c.want || n != c.n || testcode.Of(err) != c.err {
			t.Errorf("%s: %q %d %v", name, text, n, err)
		}
	}
	// A full sector tells 12 bytes and its digits.
	full := "disk 2000\n"
	for i := 10; i < 100; i++ {
		full += "tamper " + strconv.Itoa(i) + " 01\n"
	}
	// 91 lines `ok`, then 90 sectors of 7 + 2 + 1 + 128 + 1 bytes each time.
	text, n, err := house.Play(full + "\n# note\n" + strings.Repeat("sectors\n", 5))
	if err != nil || n != 0 || len(text) != 91*3+5*90*139 {
		t.Errorf("not too much: %d %d %v", len(text), n, err)
	}
	text, n, err = house.Play(full + "\n# note\n" + strings.Repeat("sectors\n", 6))
	if text != "" || n != 91+6 || testcode.Of(err) != api.ErrLong {
		t.Errorf("too much: %d %d %v", len(text), n, err)
	}
	// Lines of 8 bytes, and some of 3, that fill what is left to the byte; one more is too much.
	left := 65536 - 91*3 - 5*90*139
	few := 0
	for (left-3*few)%8 != 0 {
		few++
	}
	fill := full + strings.Repeat("sectors\n", 5) + strings.Repeat("show\n", (left-3*few)/8) + strings.Repeat("limit 1\n", few)
	if text, _, err := house.Play(fill); err != nil || len(text) != 65536 {
		t.Errorf("as much as may be: %d %v", len(text), err)
	}
	if text, n, err := house.Play(fill + "sectors\nlimit 1"); text != "" || testcode.Of(err) != api.ErrLong || n != 91+5+(left-3*few)/8+few+1 {
		t.Errorf("a byte too much: %d %v", n, err)
	}
}

// TestHS2 tells of disks, limits, times and crashes.
func TestHS2(t *testing.T) {
	tells(t, `open 5 => error 1
arm 1 => error 1
crash - => error 1
crash x => error 1
tamper 0 zz => error 1
tick 5 => error 1
disk 0 => error 1
disk 2049 => error 1
disk 2147483648 => error 1
disk 2147483649 => error 1
disk 18446744073709551615 => error 1
open 5 => error 1
disk 1 => ok
open 5 => error 1
disk 2048 => ok
limit 0 => ok
open 5 => error 1
limit 281474976710657 => ok
open 5 => error 1
limit 281474976710656 => ok
sectors
open 5 => ok
show => server 0 1 0 5
tick 18446744073709551615 => ok
show => server 0 1 0 never
open 7 => ok
show => server 0 1 0 7
arm 2147483649 => error 1
arm 2147483648 => ok
arm 0 => ok
crash 2 => error 4
crash 01- => error 4
show => server 0 1 0 7
crash 0101 => ok
show => error 1
open 8 => ok
tamper 2147483649 zz => error 1
tamper 2048 zz => error 4
tamper 2048 00 => error 1
tamper 3 0A => error 4
tamper 3 `+strings.Repeat("00", 65)+` => error 1
tamper 1024 ff => ok
open 9 => ok
show => server 0 1 0 9
tamper 0 - => ok
open 10 => error 4
show => server 0 1 0 9
sectors => sector 1024 ff`+strings.Repeat("00", 63)+`
disk 4 => ok
show => error 1
arm 1 => ok
open 1 => error 23
show => error 1
crash - => ok
open 1 => ok
disk 5000 => error 1
show => server 0 1 0 1`)
	// Steps that were done stay done, and what is kept is safe.
	tells(t, `disk 4 => ok
arm 2 => ok
open 1 => error 23
sectors
crash 1 => ok
sectors => sector 0 0000000100010003530000`+strings.Repeat("00", 53)+`
open 1 => ok
show => server 0 1 0 1`)
}

// TestHS3 draws, keeps, and asks.
func TestHS3(t *testing.T) {
	tells(t, `do none - => error 4
do status - => error 1
do status - tx => error 4
do get kv/a => error 4
do get kv/a n01 => error 4
do get kv/a nx => error 4
do get kv/a n => error 4
do get kv/a n18446744073709551616 => error 4
do get kv/a x0 => error 4
do get kv/a x => error 4
do get kv/a $x => error 5
do get kv/a yz => error 4
do get kv/a -- => error 4
do put kv/a $x yz => error 5
do put kv/a yz $x => error 4
do get kv/a n0 => error 1
do put kv/a t`+strings.Repeat("x", 599)+` t`+strings.Repeat("x", 599)+` => error 3
do get `+strings.Repeat("p", 65)+` n0 => error 4
draw 0 => error 4
draw - => ok
keep 0 x => error 5
as $x => error 5
as y => error 4
as t`+strings.Repeat("x", 33)+` => ok
do get kv/a n0 => error 4
do status - => error 1
as - => ok
do get kv/a n0 => error 1
disk 400 => ok
open 5 => ok
do status - => code 0 00 01 00 00 00
keep 1 one => ok
keep 5 one => error 5
keep 18446744073709551615 one => error 5
do status p => code 4
keep 0 one => error 5
do init - n2 n3 => code 2
do init - $one n3 => code 4
draw `+bytesOf(100, 1)+` => ok
draw `+bytesOf(30, 2)+` => ok
do init - n2 n3 => code 0 7368000000010120..
do init - n2 n3 => code 24
do root-start - => code 9
do get kv/a n0 => code 9
show => server 1 1 0 5`)
	// What is drawn and taken: 128 of 130 bytes for the vault, then two are left.
	l := play(t, "disk 400", "open 5", "draw "+bytesOf(130, 1), "do init - n2 n2", "keep 0 a", "keep 1 b", "do unseal - $a", "do unseal - $b", "do root-start -", "draw 0102", "do root-start -", "do root-start -")
	if want := "code 0 " + digits(bytesOf(130, 1)[256:]+"0102"); l[10] != want || l[8] != "code 2" || l[11] != "code 2" {
		t.Errorf("drawn: %q, not %q", l[8:], want)
	}
	long := make([]string, 0, 20)
	for range 16 {
		long = append(long, "draw "+strings.Repeat("ab", 256))
	}
	got := play(t, append(long, "draw 00", "draw -")...)
	if got[15] != "ok" || got[16] != "error 3" || got[17] != "ok" {
		t.Errorf("4096 drawn: %q", got[14:])
	}
	names := []string{"disk 400", "open 5", "do status -"}
	for i := range 64 {
		names = append(names, "keep 0 n"+strconv.Itoa(i))
	}
	got = play(t, append(names, "keep 0 n64", "keep 1 n63", "keep 9 n64", "as $n63")...)
	if got[66] != "ok" || got[67] != "error 7" || got[68] != "ok" || got[69] != "error 5" || got[70] != "ok" {
		t.Errorf("64 names: %q", got[66:])
	}
}

// TestHS3Asked asks as somebody, with values of all kinds.
func TestHS3Asked(t *testing.T) {
	lines := with("do put kv/a tsecret n18446744073709551615", "do get kv/a n0", "keep 1 got", "do put kv/b $got n0", "do put kv/b x00ff n1", "do put kv/b - n2", "do get kv/b n1", "do get kv/b n2", "do get kv/b n3",
		"do list kv", "as tnobody", "do get kv/a n0", "do status -", "as -", "do get kv/a n0", "as $root", "do token-self -", "do token-revoke - $accessor", "do token-self -")
	got := play(t, lines...)[len(begun()):]
	never := strings.Repeat("f", 16)
	accessor := digits("t" + bytesOf(26, 2)[40:])
	want := []string{
		"code 0 " + num(1), "code 0 " + num(1) + " " + digits("secret") + " " + num(5), "ok", "code 0 " + num(1), "code 0 " + num(2), "code 0 " + num(3),
		"code 0 " + num(1) + " " + digits("secret") + " " + num(5), "code 0 " + num(2) + " 00ff " + num(5), "code 0 " + num(3) + " - " + num(5), "code 0 " + digits("kv/a") + " " + digits("kv/b"),
		"ok", "code 17", "code 0 01 00 02 03 00", "ok", "code 17", "ok", "code 0 " + accessor + " " + never + " " + num(0) + " " + digits("root"), "code 0", "code 17",
	}
	for i, w := range want {
		if got[i] != w {
			t.Errorf("%s: %s, not %s", lines[len(begun())+i], got[i], w)
		}
	}
}

// TestHS4 shows the server, the disk and the log.
func TestHS4(t *testing.T) {
	tells(t, `show => error 1
sectors => error 1
journal => error 1
disk 400 => ok
sectors
show => error 1
open 5 => ok
journal => error 9
show => server 0 1 0 5`)
	got := play(t, with("do put kv/a tx n0", "do get kv/b n0", "journal", "show")...)[len(begun()):]
	if got[0] != "code 0 "+num(1) || got[1] != "code 5" || len(got) != 2+4+4 {
		t.Fatalf("told: %q", got)
	}
	for i, line := range got[2:5] {
		if !strings.HasPrefix(line, "entry 6175"+num(uint64(i+1))+num(5)) {
			t.Errorf("entry %d: %s", i, line)
		}
	}
	if got[5] != "leads 1" || got[6] != "server 1 0 0 5" || !strings.HasPrefix(got[7], "token ") || got[8] != "secret kv/a 1 078" || !strings.HasPrefix(got[9], "log 3 ") {
		t.Errorf("told: %q", got[5:])
	}
}

// TestHS5: lines that are empty, notes, or commands that only show, added, change nothing elsewhere.
func TestHS5(t *testing.T) {
	lines := with("do put kv/a tsecret n0", "do policy-put p t#", "tick 4", "draw "+bytesOf(60, 4), "do token-create - - n9 n2", "do lease-issue kv/a n5", "do rotate -", "arm 3", "do put kv/b ty n0", "crash 10", "open 0", "do unseal - $b", "do unseal - $c", "do token-self -")
	plain := play(t, lines...)
	for seed := range 6 {
		var more []string
		var mark []bool // whether a line is one of the first ones
		for i, line := range lines {
			for k := range (i*7 + seed) % 4 {
				more = append(more, []string{"", " # note", "\t", "sectors", "show", "journal"}[(i+k+seed)%6])
				mark = append(mark, false)
			}
			more = append(more, line)
			mark = append(mark, true)
		}
		var got []string
		for i := range more {
			if !mark[i] {
				continue
			}
			// What the lines up to this one tell, less what those ahead of it do.
			up := play(t, more[:i+1]...)
			got = append(got, last(up))
		}
		if strings.Join(got, "\n") != strings.Join(plain, "\n") {
			t.Errorf("seed %d: %q, not %q", seed, got, plain)
		}
	}
}
