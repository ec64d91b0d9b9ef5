package notes

import (
	"cavalcade/api"
	"cavalcade/octets"
)

// maxText is how many bytes an item carries.
const maxText = api.MaxBytes - 64

func itemMayBe(i api.Item) bool {
	switch i.Kind {
	case api.IDelayed, api.IBatch:
		return i.By >= 0 && i.By <= api.MaxWho && i.N == 0 && len(i.Text) <= maxText
	case api.IForce:
		return i.By == 0 && number(i.N) && i.Text == ""
	}
	return false
}

// WriteItem lays an item.
func WriteItem(i api.Item) (string, api.Errno) {
	if !itemMayBe(i) {
		return "", api.ErrArg
	}
	return octets.List(append(numbers(i.Kind, i.By, i.N), i.Text)...)
}

// ReadItem reads an item.
func ReadItem(s string) (api.Item, api.Errno) {
	l, ok := fields(s)
	if !ok {
		return api.Item{}, api.ErrForm
	}
	var i api.Item
	rest, ok := read(l, &i.Kind, &i.By, &i.N)
	if !ok || len(rest) != 1 {
		return api.Item{}, api.ErrForm
	}
	i.Text = rest[0]
	if !itemMayBe(i) {
		return api.Item{}, api.ErrForm
	}
	return i, api.OK
}
