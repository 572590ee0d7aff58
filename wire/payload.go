package wire

// AppendText writes a text behind b, and ahead of it how many bytes it has. The caller has seen to it that a byte can tell that.
func AppendText(b []byte, text string) []byte {
	return append(AppendNumber(b, uint8(len(text))), text...)
}

// Fields is what stands in a payload, taken from its beginning on. A field that is not there whole is taken as zeros, so that whoever reads need ask only once, at the end, whether all was there.
type Fields struct {
	rest  []byte
	short bool
}

// FieldsOf begins to take a payload apart.
func FieldsOf(payload string) *Fields { return &Fields{rest: []byte(payload)} }

// NumberOf takes a number.
func NumberOf[N unsigned](f *Fields) N {
	n, _ := takeNumber[N](f.take(width[N]()))
	return n
}

// Text takes a text.
func (f *Fields) Text() string {
	size := NumberOf[uint8](f)
	return string(f.take(int(size)))
}

// More: is there anything that was not taken yet?
func (f *Fields) More() bool { return len(f.rest) > 0 }

// Right: was all there that was taken, and is nothing left?
func (f *Fields) Right() bool { return !f.short && !f.More() }

func (f *Fields) take(size int) []byte {
	if size > len(f.rest) {
		f.rest, f.short = nil, true
		return make([]byte, size)
	}
	taken, rest := split(f.rest, size)
	f.rest = rest
	return taken
}
