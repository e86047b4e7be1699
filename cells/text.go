package cells

import (
	"math/bits"
	"strconv"
	"strings"

	"stackyard/api"
)

// cellText is one cell's text.
func cellText(c api.Cell) string {
	var parts []string
	for from := c.From; from != 0; from &= from - 1 {
		parts = append(parts, "x"+strconv.Itoa(bits.TrailingZeros64(from)))
	}
	switch c.Kind {
	case api.CellOne:
		parts = append(parts, strconv.FormatInt(c.K, 10))
	case api.CellMany:
		parts = append(parts, "*")
	}
	if len(parts) == 0 {
		return "-"
	}
	return strings.Join(parts, "|")
}

// Text: cells' texts.
func Text(dim int, l ...api.Cell) (string, api.Errno) {
	if e := Check(dim, l...); e != api.OK {
		return "", e
	}
	texts := make([]string, dim)
	for i, c := range l {
		texts[i] = cellText(c)
	}
	return strings.Join(texts, ","), api.OK
}
