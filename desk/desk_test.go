package desk

import (
	"strings"
	"testing"

	"crossway/api"
)

func TestExample(t *testing.T) {
	if s, line, err := Run("host 1:-1\ntick 1\n"); s != "under 0 0 0 0\ntime 1 dropped 0 wrong 0 0\n" || line != 0 || err != api.OK {
		t.Errorf("%s %d %v", s, line, err)
	}
}

func TestErrors(t *testing.T) {
	for text, want := range map[string]struct {
		line int
		err  api.Errno
	}{
		"": {0, api.ErrTopo}, "host 1:-1\nnonsense": {2, api.ErrLine}, strings.Repeat("#", api.MostScript+1): {0, api.ErrMuch}, "host 1:0": {0, api.ErrTopo},
	} {
		if s, line, err := Run(text); s != "" || line != want.line || err != want.err {
			t.Errorf("%.20q: %q %d %v", text, s, line, err)
		}
	}
}

const someWorld = `nat 100 16
host 1:0
draws 7 1000
host 2:-1
draws 8 2000
listen 1 80
connect 0 0 5 1 0 80 2
`

func TestOpening(t *testing.T) {
	s, _, err := Run(someWorld + "tick 1\nbend 0 0\ndeliver 0\nread 0 0\nforge 9 0 0 0 1 2 5 | 11 0\nconnect 0 0 5 1 0 80 2\n")
	want := `connect 0
read error 7
 error 1
connect error 1
assoc 0 0 wait left 0 missing 0
path 0.0.0.1>0.0.0.2 new errors 0 wait 30 room 1800
under 0 0 0 0
time 1 dropped 1 wrong 0 0
`
	if s != want || err != api.OK {
		t.Errorf("%s\n%v", s, err)
	}
}

func TestAll(t *testing.T) {
	open := someWorld + strings.Repeat("deliver 0\n", 8)
	s, _, _ := Run(open + "send 0 0 1 0 hello world\nsend 1 0 0 1 \ncalm 3\n")
	want := `connect 0
news 1 0 1 0
news 0 0 1 0
send error 1
assoc 0 0 open left 11 missing 1
path 0.0.0.1>0.0.0.2 new errors 0 wait 30 room 1800
assoc 1 0 open left 0 missing 0
path 0.0.0.2>0.0.0.100 new errors 0 wait 30 room 1800
entry 0 0.0.0.1:5 0.0.0.2:80 in 7 out 8 seen 0
net 1 0.0.0.2>0.0.0.100 80>5 tag 7, sack to 1000 room 5989
under 1 28 0 0
time 3 dropped 0 wrong 0 0
`
	if s != want {
		t.Errorf("%s", s)
	}
	s, _, _ = Run(open + "send 0 0 1 0 hello world\ndeliver 0\ndeliver 0\nread 1 0\nreboot 0\nshut 0 0\ncalm 100\n")
	for _, line := range []string{"read 1 hello world\n", "news 0 0 6 0\n", "assoc 0 0 closed left 0 missing 0\n"} {
		if !strings.Contains(s, line) {
			t.Errorf("%s is missing in\n%s", line, s)
		}
	}
	if again, _, _ := Run(open + "send 0 0 1 0 hello world\ndeliver 0\ndeliver 0\nread 1 0\nreboot 0\nshut 0 0\ncalm 100\n"); again != s {
		t.Error("the same text tells the same")
	}
	s, _, _ = Run(open + "send 0 0 1 0 x\n")
	if !strings.Contains(s, "net 0 0.0.0.1>0.0.0.2 5>80 tag 8, data EB tsn 1000 stream 1 ssn 0 bytes 1\nunder 1 32 0 3\n") {
		t.Errorf("%s", s)
	}
}

func TestInsideAndOutside(t *testing.T) {
	s, _, _ := Run("nat 100 16\nhost 1:0\nhost 1:-1\nlisten 1 5000\nconnect 0 0 4000 1 0 5000 2\ncalm 8\n")
	for _, line := range []string{"connect 0\n", "news 0 0 1 0\n", "news 1 0 1 0\n", "assoc 0 0 open left 0 missing 0\n", "assoc 1 0 open left 0 missing 0\n", " wrong 0 0\n"} {
		if !strings.Contains(s, line) {
			t.Errorf("%s is missing in\n%s", line, s)
		}
	}
}
