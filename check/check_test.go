package check

import "testing"

func TestAppend(t *testing.T) {
	for _, c := range []struct{ in, want string }{
		{"", "\x07\x00"},
		{"\x00", "\x00\xd9\x00"},
		{"\x01", "\x01\xda\x00"},
		{"\xff\xff", "\xff\xff\x27\x3a"},
	} {
		if got := string(Append([]byte(c.in))); got != c.want {
			t.Errorf("Append(%x) = %x, want %x", c.in, got, c.want)
		}
	}
}

func TestAppendWrapsRound(t *testing.T) {
	in := make([]byte, 1000)
	want := 7
	for i := range in {
		in[i] = byte(i * 7)
		want = (want*31 + int(in[i])) % 65536
	}
	got := Append(in)[len(in):]
	if int(got[0])+256*int(got[1]) != want {
		t.Errorf("the check of 1000 bytes: %x, want %x", got, want)
	}
}

func TestStrip(t *testing.T) {
	for _, s := range []string{"", "a", "some bytes"} {
		whole := Append([]byte(s))
		if got, ok := Strip(whole); string(got) != s || !ok {
			t.Errorf("Strip(%x) = %x, %v", whole, got, ok)
		}
		for i := range whole {
			whole[i] ^= 0x80
			if got, ok := Strip(whole); got != nil || ok {
				t.Errorf("Strip(%x), whose byte %d is wrong: %x, %v", whole, i, got, ok)
			}
			whole[i] ^= 0x80
		}
	}
	for _, s := range []string{"", "\x07"} {
		if got, ok := Strip([]byte(s)); got != nil || ok {
			t.Errorf("Strip(%x), too short for a check: %x, %v", s, got, ok)
		}
	}
}
