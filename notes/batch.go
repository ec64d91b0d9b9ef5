package notes

import (
	"cavalcade/api"
	"cavalcade/octets"
)

// maxParts is how many parts a batch has.
const maxParts = 512

// The bytes ahead of a part's text: a transaction's, or the inbox's next message.
const (
	partText    = "\x01"
	partDelayed = "\x02"
)

func batchMayBe(b api.Batch) bool {
	if !number(b.Seq) || !number(b.First) || !number(b.Before) || len(b.Parts) > maxParts {
		return false
	}
	for _, p := range b.Parts {
		if len(p.Text) > maxBody || p.Delayed && p.Text != "" {
			return false
		}
	}
	return true
}

// WriteBatch lays a batch.
func WriteBatch(b api.Batch) (string, api.Errno) {
	if !batchMayBe(b) {
		return "", api.ErrArg
	}
	l := numbers(b.Seq, b.First, b.Before)
	for _, p := range b.Parts {
		if p.Delayed {
			l = append(l, partDelayed)
		} else {
			l = append(l, partText+p.Text)
		}
	}
	return octets.List(l...)
}

// ReadBatch reads a batch.
func ReadBatch(s string) (api.Batch, api.Errno) {
	l, ok := fields(s)
	if !ok {
		return api.Batch{}, api.ErrForm
	}
	var b api.Batch
	rest, ok := read(l, &b.Seq, &b.First, &b.Before)
	if !ok {
		return api.Batch{}, api.ErrForm
	}
	b.Parts, ok = readParts(rest)
	if !ok || !batchMayBe(b) {
		return api.Batch{}, api.ErrForm
	}
	return b, api.OK
}

func readParts(l []string) ([]api.Part, bool) {
	var parts []api.Part
	wrong := false
walk:
	for _, s := range l {
		switch {
		case s == partDelayed:
			parts = append(parts, api.Part{Delayed: true})
		case s != "" && s[:1] == partText:
			parts = append(parts, api.Part{Text: s[1:]})
		default:
			wrong = true
			break walk
		}
	}
	return parts, !wrong
}
