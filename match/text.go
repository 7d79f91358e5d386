package match

import (
	"strconv"
	"strings"

	"skein/api"
	"skein/field"
)

// Text is a match as a text.
func Text(l []api.Term) string {
	var out strings.Builder
	for i, t := range l {
		if i > 0 {
			out.WriteString(" && ")
		}
		out.WriteString(nameOf(t.Field))
		out.WriteString(" == ")
		out.WriteString(hexadecimal(t.Value))
		if t.Mask != allBits(t.Field) {
			out.WriteString(" / ")
			out.WriteString(hexadecimal(t.Mask))
		}
	}
	return out.String()
}

// nameOf is how a text names a field, or what is none.
func nameOf(f int) string {
	if name := field.Name(f); name != "" {
		return name
	}
	return "?" + strconv.Itoa(f)
}

func hexadecimal(v uint64) string {
	return "0x" + strconv.FormatUint(v, 16)
}
