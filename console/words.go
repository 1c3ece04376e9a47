package console

import (
	"strconv"
	"strings"

	"stillwater/api"
)

const (
	digits    = "0123456789abcdef"
	maxDigits = 6 // of a number
)

// number that a word tells. Of each number there is one word alone.
func number(word string) (int, error) {
	if len(word) < 1 || len(word) > maxDigits || len(word) > 1 && word[0] == '0' {
		return 0, api.ErrForm
	}
	x := 0
	for _, c := range []byte(word) {
		if c < '0' || c > '9' {
			return 0, api.ErrForm
		}
		x = 10*x + int(c-'0')
	}
	return x, nil
}

// block that a word tells.
func block(word string) (api.Block, error) {
	if len(word) != 2*api.Wide {
		return api.Block{}, api.ErrForm
	}
	var b api.Block
	for i, c := range []byte(word) {
		x := strings.IndexByte(digits, c)
		if x < 0 {
			return api.Block{}, api.ErrForm
		}
		b[i/2] = b[i/2]<<4 | byte(x)
	}
	return b, nil
}

// blockText is the word that tells a block.
func blockText(b api.Block) string {
	text := make([]byte, 0, 2*api.Wide)
	for _, x := range b {
		text = append(text, digits[x>>4], digits[x&15])
	}
	return string(text)
}

// packetText tells a packet: its block only where its kind has one.
func packetText(p api.Packet) string {
	words := []string{strconv.Itoa(p.At), strconv.Itoa(p.Kind), strconv.Itoa(p.From)}
	if p.Kind == api.Literal {
		words = append(words, blockText(p.Data))
	}
	return strings.Join(words, " ")
}
