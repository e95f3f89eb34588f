package trial

import (
	"slices"
	"strconv"
	"strings"

	"ephemerist/api"
)

// Texts is how texts of things of a layer are written and read.
type Texts[T any] struct {
	// Most is how many bytes a text has at most.
	Most    int
	Modulus int
	Print   func(T) (string, api.Errno)
	Read    func(string) (T, api.Errno)
	Same    func(a, b T) bool
}

// Checked returns the text of some lines.
func (x Texts[T]) Checked(lines ...string) string { return Checked(x.Modulus, lines...) }

// Reads tells whether a string is read with an error alone.
func (x Texts[T]) Reads(text string, e api.Errno) bool {
	var zero T
	got, f := x.Read(text)
	return e == f && x.Same(got, zero)
}

// Taken returns those of some strings that are not refused as no texts.
func (x Texts[T]) Taken(some ...string) []string {
	var taken []string
	for _, s := range some {
		if !x.Reads(s, api.ErrText) {
			taken = append(taken, s)
		}
	}
	return taken
}

// ReadsBack tells whether a thing is written, no longer than a text is at most,
// and read as the same thing.
func (x Texts[T]) ReadsBack(thing T) bool {
	text, e := x.Print(thing)
	got, f := x.Read(text)
	return e == api.OK && f == api.OK && len(text) <= x.Most && x.Same(got, thing)
}

// Notices tells whether each digit of a thing's text that is changed is noticed.
func (x Texts[T]) Notices(thing T) bool {
	text, e := x.Print(thing)
	return e == api.OK && len(x.Taken(OtherDigits(text)...)) == 0
}

// Strange returns what is read of strings like a thing's text, but not written
// again.
func (x Texts[T]) Strange(thing T) []string {
	var strange []string
	text, _ := x.Print(thing)
	for _, other := range OtherBytes(text) {
		got, e := x.Read(other)
		again, _ := x.Print(got)
		if e == api.OK && again != other {
			strange = append(strange, other)
		}
	}
	return strange
}

// WithLine returns strings in which one of some lines is another one, each with
// the end that belongs to it, and with the end that belonged to the lines.
func (x Texts[T]) WithLine(lines []string, at int, others ...string) []string {
	var changed []string
	text := x.Checked(lines...)
	end := text[strings.LastIndex(text, "end "):]
	for _, other := range others {
		swapped := slices.Clone(lines)
		swapped[at] = other
		changed = append(changed, x.Checked(swapped...), strings.Join(swapped, "\n")+"\n"+end)
	}
	return changed
}

// Spoilt returns strings that are no texts, made of the text of some lines.
func (x Texts[T]) Spoilt(lines ...string) []string {
	text := x.Checked(lines...)
	body, check, _ := strings.Cut(strings.TrimSuffix(text, "\n"), "end ")
	n, _ := strconv.Atoi(check)
	end := func(rest string) string { return body + "end" + rest + "\n" }
	spoilt := List(
		"", "\n", body, body+"end "+check, "end "+check+"\n", "end 000\n", text[1:], "\n"+text, text+"\n", " "+text, text+" ", text+text, text+"end 000\n", strings.ToUpper(text),
		end(""), end(" "), end(check), end("  "+check), end(" "+check+" "), end(" "+check+" 0"), end(" 0"+check), end(" "+check[1:]), end(" +"+check[1:]), end(" -"+check[1:]), end(" "+check[:2]+"x"), end(" "+strconv.Itoa(n)+"."),
		end(" "+strconv.Itoa(1000 + (n+1)%x.Modulus)[1:]), end(" "+strconv.Itoa(n+x.Modulus)), body+"ende "+check+"\n", body+"End "+check+"\n", body+"stop "+check+"\n",
		x.Checked(), x.Checked(""), x.Checked(append(List(""), lines...)...), x.Checked(append(slices.Clone(lines), "")...), x.Checked(append(slices.Clone(lines), lines[0])...), x.Checked(append(slices.Clone(lines), "end "+check)...),
	)
	for _, other := range List("", "\t", "  ", "\n", "\u00a0") {
		spoilt = append(spoilt, strings.Replace(text, " ", other, 1))
	}
	for _, other := range List("", "\r\n", "\n\n", " \n", "\t\n", "\n ", "\x00\n") {
		spoilt = append(spoilt, strings.Replace(text, "\n", other, 1))
	}
	for _, some := range List("x", "\n", " ", "\xff") {
		spoilt = append(spoilt, strings.Repeat(some, x.Most))
	}
	return spoilt
}

// NotNaturals returns lines with a word that do not have just so many numbers
// without a sign, of at most so many digits.
func NotNaturals(word string, many, digits int) []string {
	return NotNumbers(word, many, 0, digits)
}

// NotNumbers returns lines with a word that do not have just so many numbers
// without a sign, and then so many that can have one, of at most so many digits.
func NotNumbers(word string, naturals, integers, digits int) []string {
	with := func(numbers ...string) string { return strings.Join(append(List(word), numbers...), " ") }
	right := slices.Repeat(List("1"), naturals+integers)
	line := with(right...)
	rest := line[len(word):]
	out := List(line+" 1", " "+line, line+" ", line+"x", line+"\r", strings.ToUpper(line), word+"s"+rest, word[1:]+rest, "x"+line, rest)
	long := strings.Repeat("1", digits+1)
	wrong := List("", "-", "-0", "+0", "+1", "00", "01", "-01", "--1", "1-", "-"+long, long, "0"+long[1:], "18446744073709551616", "0.0", "0x0", "x", "1\t", "0\x00", "\u0660", "\xff", "1e1", "1_0")
	for at := range right {
		out = append(out, with(slices.Concat(right[:at], right[at+1:])...))
		signed := List("-1", "-"+long[1:])
		if at >= naturals {
			signed = nil
		}
		for _, number := range slices.Concat(wrong, signed) {
			numbers := slices.Clone(right)
			numbers[at] = number
			out = append(out, with(numbers...))
		}
	}
	return out
}
