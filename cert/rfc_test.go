package cert

import (
	"bytes"
	"crypto/ed25519"
	"encoding/base64"
	"encoding/hex"
	"testing"

	"postilion/api"
	"postilion/packet"
)

// RFC 9580, A.3: a certificate of version 6, whose signatures have other subpackets.
const rfcCert = "" +
	"xioGY4d/4xsAAAAg+U2nu0jWCmHlZ3BqZYfQMxmZu52JGggkLq2EVD34laPCsQYf" +
	"GwoAAABCBYJjh3/jAwsJBwUVCg4IDAIWAAKbAwIeCSIhBssYbE8GCaaX5NUt+mxy" +
	"KwwfHifBilZwj2Ul7Ce62azJBScJAgcCAAAAAK0oIBA+LX0ifsDm185Ecds2v8lw" +
	"gyU2kCcUmKfvBXbAf6rhRYWzuQOwEn7E/aLwIwRaLsdry0+VcallHhSu4RN6HWaE" +
	"QsiPlR4zxP/TP7mhfVEe7XWPxtnMUMtf15OyA51YBM4qBmOHf+MZAAAAIIaTJINn" +
	"+eUBXbki+PSAld2nhJh/LVmFsS+60WyvXkQ1wpsGGBsKAAAALAWCY4d/4wKbDCIh" +
	"BssYbE8GCaaX5NUt+mxyKwwfHifBilZwj2Ul7Ce62azJAAAAAAQBIKbpGG2dWTX8" +
	"j+VjFM21J0hqWlEg+bdiojWnKfA5AQpWUWtnNwDEM0g12vYxoWM8Y81W+bHBw805" +
	"I8kWVkXU6vFOi+HWvv/ira7ofJu16NnoUkhclkUrk0mXubZvyl4GBg=="

const (
	rfcTime   = 0x63877fe3
	rfcFirst  = "cb186c4f0609a697e4d52dfa6c722b0c1f1e27c18a56708f6525ec27bad9acc9"
	rfcSecond = "12c83f1e706f6308fe151a417743a1f033790e93e9978488d1db378da9930885"
)

// rfcPackets answers the four packets of the RFC's certificate.
func rfcPackets(t *testing.T) []api.Packet {
	t.Helper()
	b, err := base64.StdEncoding.DecodeString(rfcCert)
	list, e := packet.Parse(b)
	if err != nil || e != api.OK || len(list) != 4 {
		t.Fatal(err, e, len(list))
	}
	return list
}

func TestP14_1RFCKeys(t *testing.T) {
	list := rfcPackets(t)
	for i, want := range []string{rfcFirst, rfcSecond} {
		body := list[2*i].Body
		algorithm := []byte{27, 25}[i]
		if b := KeyPacket(rfcTime, algorithm, [32]byte(body[10:])); !bytes.Equal(b, body) {
			t.Errorf("%x, not %x", b, body)
		}
		if sum := Fingerprint(body); hex.EncodeToString(sum[:]) != want {
			t.Errorf("%x, not %s", sum, want)
		}
	}
}

// The RFC's own signatures are right under the hash as it is made here, whatever their subpackets are.
func TestP14_1RFCHash(t *testing.T) {
	list := rfcPackets(t)
	first := hashedForm(list[0].Body)
	for i, what := range [][]byte{first, append(first, hashedForm(list[2].Body)...)} {
		body := list[2*i+1].Body
		head, rest := body[:8+int(number(body[4:]))], body[8+int(number(body[4:])):]
		hash := hashOf([32]byte(rest[7:]), what, head)
		if !bytes.Equal(rest[4:6], hash[:2]) || rest[6] != 32 {
			t.Errorf("%d: %x, not %x", i, hash[:2], rest[4:6])
		}
		if !ed25519.Verify(list[0].Body[10:], hash[:], rest[39:]) {
			t.Errorf("%d: the signature isn't right", i)
		}
	}
}

// Of the RFC's certificate the keys are read, but its signatures have subpackets that the chapter's don't have.
func TestP14_2RFCIsNone(t *testing.T) {
	list := rfcPackets(t)
	b, _ := packet.Write(list)
	refuses(t, b, api.ErrForm)
	if c, ok := readKeys(list); !ok || c.Time != rfcTime || hex.EncodeToString(c.Prints[0][:]) != rfcFirst || hex.EncodeToString(c.Prints[1][:]) != rfcSecond {
		t.Errorf("%x, %v", c, ok)
	}
}
