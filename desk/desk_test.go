package desk

import (
	"cubbyhole/api"
	"strings"
	"testing"
)

const conf = "conf 160 5 60 2 4 4 2 8 4000 0\n"

// Promise 50.1: what is told of a text, all of whose lines say something.
func TestTold(t *testing.T) {
	for _, x := range []struct{ text, want string }{
		{"", ""}, {"\n\n\n", ""}, {"regs", ""}, {conf, ""}, {conf + "regs\n", ""},
		{conf + "malloc 0 1 100\nwrite 1 00ff\nread 1 2\n", "bytes 00ff\n"}, {conf + "\n\nmalloc 0 1 100\n\nread 1 2", "bytes 0000\n"},
		{"conf 160 5 60 2 4 4 2 8 4000 255\nmalloc 0 1 5\ncalloc 0 2 5 2\nread 1 5\nread 2 10\nread 1 6\nread 1 0\n", "bytes ffffffffff\nbytes 00000000000000000000\nerror 9\nbytes\n"},
		{conf + "malloc 0 1 16\nwrite 1 0123456789abcdef90f0\nread 1 10\n", "bytes 0123456789abcdef90f0\n"}, {conf + "malloc 0 1 100\nwrite 1 \nread 1 1\n", "bytes 00\n"}, {conf + "malloc 1 1 100\nusable 1\nfree 1 1\nusable 1\n", "usable 112\nerror 7\n"},
		{conf + "malloc 0 0 100\nmove 1 0 7\nbounds 2 1 5\nmove 3 2 -9\ndrop 4 3 18\ncopy 5 4\nregs\n", "reg 0 1 0 100 0 rwRWf\nreg 1 1 0 100 7 rwRWf\nreg 2 1 7 5 0 rwRWf\nreg 3 1 7 5 -9 rwRWf\nreg 4 1 7 5 -9 r-RW-\nreg 5 1 7 5 -9 r-RW-\n"},
		{conf + "malloc 0 0 100\nmalloc 0 1 9\nwrite 1 0a0b\nstore 0 1\nload 2 0\nread 2 2\nrealloc 1 0 0 20\nclear 1\nload 1 0\nregs\n", "bytes 0a0b\nreg 0 3 0 20 0 rwRWf\nreg 1 2 0 9 0 rwRWf\nreg 2 2 0 9 0 rwRWf\n"},
		{conf + "aligned 0 0 64 5\nusable 0\naligned 0 0 48 5\naligned 0 0 512 5\n", "usable 192\nerror 1\nerror 1\n"},
		{conf + "malloc 0 0 9\nmalloc 0 1 20\nfree 0 0\nstat\naudit\nsettle\nstat\naudit\nsettle\n", "got 2 given 1 ended 0 live 20 peak 29 clear 0\naudit 0 0\nsettled 1\ngot 2 given 1 ended 1 live 20 peak 29 clear 1\naudit 0 0\nsettled 0\n"},
		{conf + "start\nstart\nstep 5\nstep 0\nstep 262144\nstep 1\nrelease\nregs\n", ""},
		{conf + "malloc 2 0 9\nmalloc 0 8 9\nmalloc 0 0 0\nmalloc 0 0 4001\nread 0 4097\nread 0 4096\nread 262144 1\nmove 0 0 -262144\n", "error 1\nerror 15\nerror 1\nerror 4\nerror 4\nerror 7\nerror 15\nerror 7\n"},
		{conf + "malloc 0 0 1024\nmalloc 0 0 1024\naudit\n", "error 13\naudit 0 0\n"},
		{"malloc 0 0 5\nstart\nstep 5\nrelease\nclear 0\nread 0 1\nregs\n", "error 1\nerror 1\nerror 1\nerror 1\nerror 1\nerror 1\n"},
		{conf + "malloc 0 0 5\n" + conf + "regs\nstat\n", "got 0 given 0 ended 0 live 0 peak 0 clear 0\n"},
		{conf + "malloc 0 0 5\nconf 160 5 60 2 4 4 2 8 4000 256\nregs\nread 0 1\n", "error 1\nerror 1\n"},
		{"conf 160 5 925 2 4 4 2 8 4000 0\nregs\n" + conf + "malloc 0 0 5\nread 0 1\n", "error 4\nbytes 00\n"},
		{"conf 0 0 0 0 0 0 0 0 0 0\nconf 262144 262144 262144 262144 262144 262144 262144 262144 262144 262144", "error 1\nerror 1\n"},
	} {
		if told, line, err := Play(x.text); told != x.want || line != 0 || err != 0 {
			t.Errorf("%q: %q, %d, %d", x.text, told, line, err)
		}
	}
}

func TestLinesThatSayNothing(t *testing.T) {
	for _, line := range []string{
		" ", "x", "malloc", "malloc 0 1", "malloc 0 1 2 3", "malloc  0 1 2", " malloc 0 1 2", "malloc 0 1 2 ", "malloc 0 1 -2", "malloc 0 1 02", "malloc 0 1 262145", "malloc 0 1 x", "malloc 0 1 2\r", "malloc\t0 1 2", "Malloc 0 1 2", "malloc -0 1 2", "malloc 0 1 +2",
		"calloc 0 1 2", "aligned 0 1 2", "free 0", "realloc 0 1 2", "usable", "usable 1 2", "bounds 1 2", "bounds 1 2 -3", "drop 1 2", "move 1 2", "move 1 2 -0", "move 1 2 --3", "move 1 2 -", "move 1 2 -03", "move 1 2 -262145", "copy 1", "read 1", "read 1 ", "write 1", "write 1 0", "write 1 0g", "write 1 0A", "write 1 00 00", "write 1  ", "write 1 00 ",
		"load 1", "store 1", "start 1", "start ", "step", "release 0", "clear", "regs 1", "regs ", "stat 0", "audit ", "settle 5", "conf", "conf 160 5 60 2 4 4 2 8 4000", "conf 160 5 60 2 4 4 2 8 4000 0 7", "conf 160 5 60 2 4 4 2 8 4000 -1", "conf 160 5 60 2 4 4 2 8 4000 262145", "conf 160 5 60 2 4 4 2 8 4000 00", "conf  160 5 60 2 4 4 2 8 4000 0",
	} {
		for ahead, want := range map[string]string{"": "", conf + "malloc 0 1 100\n\nread 1 1\n": "bytes 00\n"} {
			told, n, err := Play(ahead + line + "\nread 1 1\n")
			if told != want || n != strings.Count(ahead, "\n")+1 || err != api.ErrScript {
				t.Errorf("%q: %q, %d, %d", ahead+line, told, n, err)
			}
		}
	}
	// without an allocator there is nothing of which these could tell
	for _, line := range []string{"stat", "audit", "settle"} {
		if told, n, err := Play("malloc 0 0 1\n" + line + "\nregs\n"); told != "error 1\n" || n != 2 || err != api.ErrScript {
			t.Errorf("%q: %q, %d, %d", line, told, n, err)
		}
		if told, n, err := Play(conf + "conf 0 0 0 0 0 0 0 0 0 0\n" + line); told != "error 1\n" || n != 3 || err != api.ErrScript {
			t.Errorf("%q: %q, %d, %d", line, told, n, err)
		}
	}
}

func TestMost(t *testing.T) {
	text := conf + "malloc 0 1 4000\nwrite 1 " + strings.Repeat("5a", 4000) + "\nread 1 4000\n"
	if told, n, err := Play(text); told != "bytes "+strings.Repeat("5a", 4000)+"\n" || n != 0 || err != 0 {
		t.Error(len(told), n, err)
	}
	if told, n, err := Play(conf + "write 1 " + strings.Repeat("5a", 4097)); told != "error 4\n" || n != 0 || err != 0 {
		t.Error(told, n, err)
	}
	if told, n, err := Play(strings.Repeat("\n", api.MaxDesk)); told != "" || n != 0 || err != 0 {
		t.Error(told, n, err)
	}
	if told, n, err := Play(conf + "x\n" + strings.Repeat("\n", api.MaxDesk)); told != "" || n != 0 || err != api.ErrBig {
		t.Error(told, n, err)
	}
}

// The examples of the whole.
func TestExamples(t *testing.T) {
	for text, want := range map[string]string{
		"malloc 0 0 5\nread 0 6":                                         "error 9\n",
		"malloc 0 0 5\ncopy 1 0\nfree 0 0\nread 0 1\nread 1 1":           "error 7\nerror 7\n",
		"malloc 0 0 5\nfree 0 0\nfree 0 0":                               "error 7\n",
		"malloc 0 0 5\nbounds 1 0 4\nfree 0 1\nmove 1 0 1\nfree 0 1":     "error 14\nerror 14\n",
		"malloc 0 0 16\nstore 0 0\nwrite 0 00\nload 1 0\nregs":           "reg 0 1 0 16 0 rwRWf\n",
		"malloc 0 0 5\nwrite 0 01\nfree 0 0\nmalloc 0 0 5\nread 0 1":     "bytes 00\n",
		"malloc 0 0 5\nwrite 0 01\nfree 0 0\nsettle\nmalloc 0 0 5\nregs": "settled 1\nreg 0 2 0 5 0 rwRWf\n",
	} {
		if told, _, err := Play(conf + text); told != want || err != 0 {
			t.Errorf("%q: %q, %d", text, told, err)
		}
	}
}
