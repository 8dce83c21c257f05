package head

const (
	betweenPieces = ','
	quote         = '"'
	// Within quotes, escape takes the next byte along.
	escape = '\\'
)

// Split tells the pieces of all values.
func Split(values []string) []string {
	var pieces []string
	for _, value := range values {
		pieces = appendPieces(pieces, value)
	}
	return pieces
}

func appendPieces(pieces []string, value string) []string {
	for value != "" {
		n := pieceSize(value)
		if piece := Trim(value[:n]); piece != "" {
			pieces = append(pieces, piece)
		}
		value = value[min(n+1, len(value)):]
	}
	return pieces
}

// pieceSize tells how many bytes of s stand ahead of its first comma outside of quotes.
func pieceSize(s string) int {
	quoted := false
	for i := 0; i < len(s); i++ {
		switch {
		case s[i] == quote:
			quoted = !quoted
		case s[i] == escape && quoted:
			i++
		case s[i] == betweenPieces && !quoted:
			return i
		}
	}
	return len(s)
}
