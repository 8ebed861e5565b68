package pack

// word keeps a number apart from the numbers of its fields, which are of the same type.
type word[U ~uint64] struct{ v U }

// field asks for a span in the word: a shift by less than nothing would panic.
func (w word[U]) field(s span) U {
	return w.v >> s.at & ones[U](s)
}

// with asks for a v that fits, beside a span in the word: else it would turn bits of other fields.
func (w word[U]) with(s span, v U) word[U] {
	rest := w.v &^ (ones[U](s) << s.at)
	return word[U]{rest | v<<s.at}
}

// ones needs no case of its own for all bits of a word: 1 shifted out of it is 0, and that less one is all ones.
func ones[U ~uint64](s span) U {
	return U(1)<<s.bits - 1
}

func fits[U ~uint64](v U, s span) bool {
	return v <= ones[U](s)
}
