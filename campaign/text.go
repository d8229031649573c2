package campaign

import (
	"strconv"
	"strings"

	"venturi/api"
	"venturi/correct"
)

// joined returns the texts of the elements of a list, with a sign between two of them.
func joined[T any](l []T, sign string, text func(x T) string) string {
	return strings.Join(each(l, text), sign)
}

// orNothing returns a text, or the word for an empty list.
func orNothing(text string) string {
	if text == "" {
		return nothing
	}
	return text
}

// numberText returns the text of a number that a call returned, or its error.
func numberText(n int, e api.Errno) (string, api.Errno) {
	if e != api.OK {
		return "", e
	}
	return strconv.Itoa(n), api.OK
}

// levelsText returns the text of levels.
func levelsText(levels []int) string { return joined(levels, ",", strconv.Itoa) }

// resultText returns the text of a result of a chain.
func resultText(r correct.Named) string {
	return r.Name + "=" + r.Box.Lo().String() + ".." + r.Box.Hi().String()
}

// entryText returns the text of an entry.
func entryText(entry api.Entry) string {
	numbers := []int{entry.Versions, entry.Day, entry.Until}
	text := strconv.Itoa(entry.Number) + " " + entry.Kind + " " + joined(numbers, " ", strconv.Itoa)
	if entry.Gone {
		text += " gone"
	}
	return text
}
