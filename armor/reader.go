package armor

import (
	"strings"

	"postilion/api"
)

// A reader is what is still to be read.
type reader struct {
	rest string
}

// line reads the next line, without its end; an empty one, if nothing is left.
func (r *reader) line() string {
	line, rest, ended := strings.Cut(r.rest, "\n")
	r.rest = rest
	if ended {
		// A carriage return alone ends no line: without a line feed behind it, it is the line's own.
		line = strings.TrimSuffix(line, "\r")
	}
	return line
}

// toEmpty reads the lines ahead of the empty one, and that; false, if one of them is no header.
func (r *reader) toEmpty() bool {
	for {
		line := r.line()
		if line == "" {
			return true
		}
		if !isHeader(line) {
			return false
		}
	}
}

// isHeader tells whether a line is "Name: value".
func isHeader(line string) bool {
	name, _, ok := strings.Cut(line, ": ")
	return ok && name != "" && strings.Trim(name, letters) == ""
}

// body reads the lines of base64, and answers their bytes and the line behind them: one that is empty, or begins as a sum or the last line does. It answers false, if the lines are no base64.
func (r *reader) body() ([]byte, string, bool) {
	var text strings.Builder
	for {
		line := r.line()
		if line == "" || line[0] == pad[0] || line[0] == dashes[0] {
			b, e := Unbase64(text.String())
			return b, line, e == api.OK
		}
		// The last line too: the number of all signs is a multiple of four.
		if len(line) > maxSigns || len(line)%4 != 0 {
			return nil, "", false
		}
		text.WriteString(line)
	}
}
