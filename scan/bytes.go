package scan

// Nothing stands for the byte ahead where there is none: no form takes it.
const Nothing byte = 0

func isAllowed(b byte) bool { return b == '\t' || b == '\n' || b >= ' ' && b <= '~' }

func isSpace(b byte) bool { return b == ' ' || b == '\t' || b == '\n' }

func isLetter(b byte) bool { return b >= 'a' && b <= 'z' || b >= 'A' && b <= 'Z' }

func isDigit(b byte) bool { return b >= '0' && b <= '9' }

func isNameByte(b byte) bool { return isLetter(b) || isDigit(b) || b == '-' }

func isWordByte(b byte) bool { return isNameByte(b) || b == '_' }

func smallByte(b byte) byte {
	if b >= 'A' && b <= 'Z' {
		return b + ('a' - 'A')
	}
	return b
}

// Small gives the text with small letters, in new memory. Only A to Z count as capital ones: letters outside the bytes of a text (the Kelvin sign, say) must not become one of a name.
func Small(text string) string {
	small := []byte(text)
	for i, b := range small {
		small[i] = smallByte(b)
	}
	return string(small)
}
