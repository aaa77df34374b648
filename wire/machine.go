package wire

import (
	"strconv"
	"strings"

	"copse/api"
)

const (
	cr   = '\r'
	lf   = '\n'
	crlf = "\r\n"
)

// maxDigits is how many digits a number line may have.
const maxDigits = 6

// The states of the machine: each is told the next byte, counted in at already, says by r.step what comes behind it, and answers the fault if the byte can't stand there. A part of a command (a sign, a number line, a word with its end) is let go when it is read, so that at counts from its beginning.

// begin is the state ahead of a command or of a plain line.
func (r *Reader) begin(b byte) error {
	if b != '*' {
		r.step = r.plain
		return r.plain(b)
	}
	r.drop()
	r.step, r.whole = r.digit, r.counted
	return nil
}

// digit is the state within a number line.
func (r *Reader) digit(b byte) error {
	if b == cr && r.at > 1 {
		r.step = r.numberEnd
		return nil
	}
	if b < '0' || b > '9' || r.at > maxDigits || r.at > 1 && r.waits[0] == '0' {
		return api.ErrText
	}
	return nil
}

// numberEnd is the state behind the CR of a number line.
func (r *Reader) numberEnd(b byte) error {
	if b != lf {
		return api.ErrText
	}
	// digits alone were let through, and few of them
	n, _ := strconv.Atoi(r.line())
	return r.whole(n)
}

// counted knows how many words the command has.
func (r *Reader) counted(n int) error {
	if n == 0 {
		return api.ErrText
	}
	if n > api.MaxArgs {
		return api.ErrMany
	}
	r.left = n
	r.step = r.sign
	return nil
}

// sign is the state ahead of a word.
func (r *Reader) sign(b byte) error {
	if b != '$' {
		return api.ErrText
	}
	r.drop()
	r.step, r.whole = r.digit, r.sized
	return nil
}

// sized knows how many bytes the word has.
func (r *Reader) sized(n int) error {
	if n > api.MaxText {
		return api.ErrMany
	}
	r.size = n
	r.step = r.inWord
	return nil
}

// inWord is the state within a word's bytes, and just behind them.
func (r *Reader) inWord(b byte) error {
	if r.at <= r.size {
		return nil
	}
	if b != cr {
		return api.ErrText
	}
	r.step = r.wordEnd
	return nil
}

// wordEnd is the state behind the CR of a word.
func (r *Reader) wordEnd(b byte) error {
	if b != lf {
		return api.ErrText
	}
	r.words = append(r.words, r.line())
	r.left--
	r.step = r.sign
	if r.left == 0 {
		r.step = r.begin
	}
	return nil
}

// plain is the state within a plain line.
func (r *Reader) plain(b byte) error {
	switch {
	case b == cr:
		r.step = r.plainEnd
	case r.at > api.MaxLine:
		return api.ErrMany
	case b < ' ' && b != '\t' || b == 0x7f:
		return api.ErrText
	}
	return nil
}

// plainEnd is the state behind the CR of a plain line.
func (r *Reader) plainEnd(b byte) error {
	if b != lf {
		return api.ErrText
	}
	words := strings.FieldsFunc(r.line(), blank)
	if len(words) > api.MaxArgs {
		return api.ErrMany
	}
	r.words = words
	r.step = r.begin
	return nil
}

// blank tells the bytes that part the words of a plain line.
func blank(r rune) bool { return r == ' ' || r == '\t' }

// ready tells whether a command is whole; a line without words makes none.
func (r *Reader) ready() bool { return r.left == 0 && len(r.words) > 0 }

// line is what stands ahead of the CR and LF that were gone through last; it is let go.
func (r *Reader) line() string {
	line := string(r.waits[:r.at-len(crlf)])
	r.drop()
	return line
}

// drop lets go what the machine has gone through.
func (r *Reader) drop() {
	r.waits = r.waits[r.at:]
	r.gone += r.at
	r.at = 0
}

// tidy gives memory back that nothing waits in. It copies no more bytes than were let go since it last did, so that all copies together cost no more than what was fed.
func (r *Reader) tidy() {
	if r.fault != nil {
		r.waits, r.words = nil, nil
	}
	if r.gone > len(r.waits) {
		r.waits = append([]byte(nil), r.waits...)
		r.gone = 0
	}
}
