package x3dh

import (
	"encoding/hex"
	"testing"

	"postilion/api"
)

// What another program reckoned of the bytes from 0 on: 32 each for ID, Pre, Once and Sign, and for the other side's ID and what it drew.
const (
	knownID      = "8f40c5adb68f25624ae5b214ea767a6ec94d829d3d7b5e1ad1ba6f3e2138285f"
	knownPre     = "358072d6365880d1aeea329adf9121383851ed21a28e3b75e965d0d2cd166254"
	knownOnce    = "79a631eede1bf9c98f12032cdeadd0e7a079398fc786b88cc846ec89af85a51a"
	knownSign    = "174553b456dddfc6908ecab1c101fe6ab21e2baa0617795b7d43a63482993fd5"
	knownSig     = "08c7999502dcc789d0401d660f7ec2af823f218924c9020d99b0f2d91909d811e41f37b107e5aa253e5e6a108f145ff9812dc23c4b60e59a9212e9c4cb979b0e"
	knownTheirs  = "493e82fc74464a59268817623d2053c5eb8e2cc4a988b4fee179ec6b010d531d"
	knownDrawn   = "605a725d2a4adfeeb1a29e17edd621c1b7593ee8cdbc44ac6c4ab6e2f805d23c"
	knownWithout = "812e858c83472dfa8f4656949073164c430e8adc24d0eac2f5a79f891677352a"
	knownWith    = "5c137a12209f0722321b8d75243b066f70623940648a03c66babc967cbb97a52"
)

// counted answers the 32 bytes from 32 n on.
func counted(n byte) [32]byte {
	var b [32]byte
	for i := range b {
		b[i] = 32*n + byte(i)
	}
	return b
}

// knownSecrets answers what the known bundle is made of.
func knownSecrets() Secrets {
	return Secrets{ID: counted(0), Pre: counted(1), Once: counted(2), Sign: counted(3)}
}

// unhex answers 32 bytes.
func unhex(t *testing.T, s string) [32]byte {
	t.Helper()
	b, err := hex.DecodeString(s)
	if err != nil || len(b) != 32 {
		t.Fatalf("%s: %v", s, err)
	}
	return [32]byte(b)
}

// knownBundle answers what the other program made of the known secrets.
func knownBundle(t *testing.T, once bool) Bundle {
	t.Helper()
	b := Bundle{ID: unhex(t, knownID), Pre: unhex(t, knownPre), Sign: unhex(t, knownSign)}
	if once {
		b.Once = unhex(t, knownOnce)
	}
	for i, half := range []string{knownSig[:64], knownSig[64:]} {
		bytes := unhex(t, half)
		copy(b.Sig[32*i:], bytes[:])
	}
	return b
}

func TestP18_1Known(t *testing.T) {
	for _, c := range []struct {
		once bool
		want string
	}{{false, knownWithout}, {true, knownWith}} {
		b, want := knownBundle(t, c.once), unhex(t, c.want)
		if got := Publish(knownSecrets(), c.once); got != b {
			t.Errorf("once %v: %x, not %x", c.once, got, b)
		}
		if x, e := Start(counted(4), counted(5), b); e != api.OK || x != want {
			t.Errorf("once %v: %x, %v, not %x", c.once, x, e, want)
		}
		if x, e := Answer(knownSecrets(), c.once, unhex(t, knownTheirs), unhex(t, knownDrawn)); e != api.OK || x != want {
			t.Errorf("once %v: %x, %v, not %x", c.once, x, e, want)
		}
	}
}
