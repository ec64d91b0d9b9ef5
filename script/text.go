package script

import (
	"slices"
	"strconv"
	"strings"

	"cavalcade/api"
)

// table is what a line of each kind says: its word, and what it names. The first row is the net's.
var table = [api.LShow + 1]string{
	"net Depth Wait Length Floor Reserve Pool Delay Stay Parts Bytes Age Lag Patience Window",
	"send From Nonce Fee To Data",
	"lane From Nonce Fee To Data Round Turn By",
	"text Data",
	"tick N",
	"delayed By Data",
	"force N",
	"post By Data",
	"mine N Salt",
	"turn N Salt",
	"crash N",
	"start",
	"arm N",
	"fund By N",
	"bid By Round N Salt",
	"show",
}

// netRow is the table's row of the net.
const netRow = 0

// none is the data word of no bytes.
const none = "-"

const digits = "0123456789abcdef"

// places is where a line has what it names: a number, or else a text.
type places func(name string) (*int, *string)

// lineFields makes the function that tells where a line has something.
func lineFields(l *api.Line) places {
	return func(name string) (*int, *string) {
		switch name {
		case "From":
			return &l.From, nil
		case "Nonce":
			return &l.Nonce, nil
		case "Fee":
			return &l.Fee, nil
		case "To":
			return &l.To, nil
		case "Round":
			return &l.Round, nil
		case "Turn":
			return &l.Turn, nil
		case "By":
			return &l.By, nil
		case "N":
			return &l.N, nil
		case "Salt":
			return &l.Salt, nil
		}
		return nil, &l.Data
	}
}

// netFields makes the function that tells where a net has something.
func netFields(n *api.Net) places {
	all := []*int{&n.Depth, &n.Wait, &n.Length, &n.Floor, &n.Reserve, &n.Pool, &n.Delay, &n.Stay,
		&n.Rules.Parts, &n.Rules.Bytes, &n.Rules.Age, &n.Rules.Lag, &n.Patience, &n.Window}
	names := strings.Split(table[netRow], " ")[1:]
	return func(name string) (*int, *string) { return all[slices.Index(names, name)], nil }
}

// read puts a line's words into their places; it tells whether it is a line of this row.
func read(line string, row int, at places) bool {
	words, names := strings.Split(line, " "), strings.Split(table[row], " ")
	if len(words) != len(names) || words[0] != names[0] {
		return false
	}
	for i, name := range names[1:] {
		ok := false
		if n, s := at(name); n != nil {
			*n, ok = readNumber(words[i+1])
		} else {
			*s, ok = readData(words[i+1])
		}
		if !ok {
			return false
		}
	}
	return true
}

// write makes a line of what stands in the places; it tells whether all of it may be.
func write(row int, at places) (string, bool) {
	words := strings.Split(table[row], " ")
	for i, name := range words[1:] {
		n, s := at(name)
		switch {
		case n != nil && (*n < 0 || *n > api.MaxNumber), s != nil && len(*s) > api.MaxData:
			return "", false
		case n != nil:
			words[i+1] = strconv.Itoa(*n)
		default:
			words[i+1] = dataWord(*s)
		}
	}
	return strings.Join(words, " ") + "\n", true
}

func readNumber(s string) (int, bool) {
	if s == "" || strings.Trim(s, digits[:10]) != "" || s[0] == '0' && s != "0" {
		return 0, false
	}
	n, err := strconv.Atoi(s)
	if err != nil || n > api.MaxNumber {
		return 0, false
	}
	return n, true
}

func readData(s string) (string, bool) {
	if s == none {
		return "", true
	}
	if s == "" || len(s)%2 != 0 || len(s) > 2*api.MaxData || strings.Trim(s, digits) != "" {
		return "", false
	}
	b := make([]byte, len(s)/2)
	for i := range b {
		b[i] = byte(strings.IndexByte(digits, s[2*i])<<4 | strings.IndexByte(digits, s[2*i+1]))
	}
	return string(b), true
}

func dataWord(s string) string {
	if s == "" {
		return none
	}
	return hex(s)
}

func hex(s string) string {
	b := make([]byte, 0, 2*len(s))
	for i := range len(s) {
		b = append(b, digits[s[i]>>4], digits[s[i]&15])
	}
	return string(b)
}
