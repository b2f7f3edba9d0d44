package console

import (
	"math"
	"strconv"
	"strings"

	"castellan/api"
	"castellan/mode"
	"castellan/refuse"
	"castellan/site"
)

// args is what the words of a line say.
type args struct {
	n      []int
	by     int64
	mode   api.Mode
	ticket api.Ticket
	raw    []byte
	forms  []bool
}

// form is what a line is like: a letter for each word behind the first one, and what the line does; first is one that needs no world.
type form struct {
	words string
	first bool
	do    func(c *Console, a args) (string, api.Errno)
}

// order is a line that may be: what it does, with what.
type order struct {
	form
	args args
}

// need gives up, where a line may not be.
func need(ok bool) { refuse.Need(ok, api.ErrLine) }

// read reads a line's words.
func (c *Console) read(words ...string) order {
	f, ok := lines()[words[0]]
	need(ok && len(words) == 1+len(f.words))
	x := order{form: f}
	for i, letter := range f.words {
		c.word(&x.args, letter, words[1+i])
	}
	return x
}

// word reads a word of the kind that a letter says.
func (c *Console) word(a *args, letter rune, word string) {
	switch letter {
	case 'N':
		a.n = append(a.n, int(number(word)))
	case 'D':
		a.by = change(word)
	case 'M':
		m, e := mode.Parse(word)
		need(e == api.OK && m != api.ModeNone)
		a.mode = m
	case 'T':
		t, e := site.Parse(c.shape(), word)
		need(e == api.OK)
		a.ticket = t
	case 'H':
		a.raw = bytes(word)
	case 'K':
		a.forms = forms(word)
	}
}

// number reads a number, in the form in which it is told, and in no other one.
func number(word string) int64 {
	n, err := strconv.ParseInt(word, 10, 64)
	need(err == nil && 0 <= n && n <= math.MaxInt32 && strconv.FormatInt(n, 10) == word)
	return n
}

// change reads a number that is not 0, perhaps one below.
func change(word string) int64 {
	rest, below := strings.CutPrefix(word, "-")
	n := number(rest)
	need(n != 0)
	if below {
		return -n
	}
	return n
}

// bytes reads bytes, two digits to the base 16 each.
func bytes(word string) []byte {
	if word == "-" {
		return nil
	}
	need(word != "" && len(word)%2 == 0)
	b := make([]byte, len(word)/2)
	for i := range b {
		b[i] = digit(word[2*i])<<4 | digit(word[2*i+1])
	}
	return b
}

// digit reads a digit to the base 16.
func digit(x byte) byte {
	n := strings.IndexByte("0123456789abcdef", x)
	need(n >= 0)
	return byte(n)
}

// forms reads a letter for each lock, and tells whether it is a tree.
func forms(word string) []bool {
	need(word != "")
	var l []bool
	for _, letter := range word {
		need(letter == 'b' || letter == 't')
		l = append(l, letter == 't')
	}
	return l
}
