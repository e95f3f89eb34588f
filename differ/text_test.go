package differ_test

import (
	"slices"
	"strings"
	"testing"

	"ephemerist/api"
	"ephemerist/differ"
	"ephemerist/trial"
)

func texts() trial.Texts[api.DifferPlan] {
	return trial.Texts[api.DifferPlan]{Most: api.DifferText, Modulus: 227, Print: differ.Print, Read: differ.Read, Same: samePlan}
}

func checked(lines ...string) string { return texts().Checked(lines...) }

// P1.8
func TestPrint(t *testing.T) {
	for i, x := range []struct {
		p    api.DifferPlan
		want string
	}{
		{plan(1, 0, span(5, 5)), "plan 1 0\nstart 5 5\nend 116\n"},
		{planA(), checked("plan 5 2", "start 1047 1049", "start 250 251", "start -40 -40")},
		{plan(12, 3, span(-99999, -99993), span(-3, 0), span(0, 6), span(99993, 99999)), checked("plan 12 3", "start -99999 -99993", "start -3 0", "start 0 6", "start 99993 99999")},
	} {
		if got, e := differ.Print(x.p); e != api.OK || got != x.want {
			t.Errorf("%d: %q %v", i, got, e)
		}
	}
}

// P1.8
func TestReadForm(t *testing.T) {
	lines, zero := trial.List("plan 1 0", "start 5 5"), trial.List("plan 1 0", "start 0 0")
	wrong := slices.Concat(texts().Spoilt(lines...), trial.List(
		checked("start 5 5"), checked("start 5 5", "plan 1 0"), checked("start 5 5", "start 5 5"), checked("plan 1 0", "plan 1 0"), checked("plan 1 0", "start 5 5", "plan 1 0"), checked("plan 1 0", "plan 1 0", "start 5 5"),
	))
	wrong = append(wrong, texts().WithLine(lines, 0,
		"plan 1", "plan 1 0 0", "plan 1  0", "plan  1 0", "plan 1 0 ", " plan 1 0", "plan 1 ", "plan  0", "plan 01 0", "plan +1 0", "plan -1 0", "plan 1 -0", "plan 1 00", "plan 1 x", "plan 0x1 0", "plan 1_0 0", "plan 1.0 0",
		"plan 100000 0", "plan 1 100000", "plan 18446744073709551617 0", "plan 1 0\r", "plan 1 0\x00", "plan \u0661 0", "plan 1 \xff", "Plan 1 0", "pla 1 0", "1 0", "",
	)...)
	wrong = append(wrong, texts().WithLine(lines, 1,
		"start 5", "start 5 5 5", "start 5  5", "start  5 5", "start 5 5 ", " start 5 5", "start 5 ", "start  5", "start 05 5", "start 5 05", "start +5 5", "start - 5", "start 5 -", "start --5 5", "start 5 5-", "start 5x 5",
		"start 100000 5", "start 5 100000", "start -100000 5", "start 5 18446744073709551621", "start 5 5\r", "start 5 5\x00", "start \u0665 5", "start 5 \xff", "Start 5 5", "begin 5 5", "5 5", "",
	)...)
	wrong = append(wrong, texts().WithLine(zero, 1, "start -0 0", "start 0 -0", "start 00 0", "start  0", "start 0 ", "start - 0", "start -00 0")...)
	for _, text := range texts().Taken(wrong...) {
		t.Errorf("%q", text)
	}
	if !texts().ReadsBack(plan(1, 0, span(0, 0))) {
		t.Error(zero)
	}
}

// P1.8: ErrLong comes before ErrText, and ErrText before ErrArg.
func TestReadErrors(t *testing.T) {
	const far = "start -99999 -99993"
	most, long := checked("plan 12 3", far, far, far, far, "start 100 1"), checked("plan 12 3", far, far, far, far, "start 1000 1")
	if len(most) != api.DifferText || len(long) != api.DifferText+1 {
		t.Fatal(len(most), len(long))
	}
	for text, want := range map[string]api.Errno{
		long: api.ErrLong, strings.Repeat("x", 111): api.ErrLong, checked("plan 1 0", "start 5 5") + strings.Repeat("\n", 84): api.ErrLong, strings.Repeat("x", 110): api.ErrText,
		checked("plan 0 0", "start 5"): api.ErrText, strings.Replace(checked("plan 0 0"), "end ", "end 9", 1): api.ErrText,
		// the form with any numbers, and any number of starts
		most: api.ErrArg, checked("plan 1 0"): api.ErrArg, checked("plan 0 0", "start 5 5"): api.ErrArg, checked("plan 13 0", "start 5 5"): api.ErrArg, checked("plan 99999 0", "start 5 5"): api.ErrArg, checked("plan 1 4", "start 5 5"): api.ErrArg, checked("plan 1 99999", "start 5 5"): api.ErrArg,
		checked("plan 1 0", "start 5 4"): api.ErrArg, checked("plan 1 0", "start 5 12"): api.ErrArg, checked("plan 1 0", "start 0 0", "start 0 0", "start 0 0", "start 0 0", "start 0 0"): api.ErrArg,
	} {
		if !texts().Reads(text, want) {
			t.Errorf("%q %v", text, want)
		}
	}
}

// P1.8, P0.11: what was written is read as what was written.
func TestReadWhatWasWritten(t *testing.T) {
	widest := span(-99999, -99993)
	all := trial.List(plan(1, 0, span(0, 0)), plan(12, 3, widest, widest, widest, widest), plan(3, 1, span(-6, 0), span(99999, 99999)))
	plans(t, func(t *testing.T, _ *dice, p api.DifferPlan) { all = append(all, p) })
	for _, p := range all {
		if !texts().ReadsBack(p) {
			t.Error(p)
		}
	}
}

// P1.8: one digit that was changed is noticed.
func TestChangedDigit(t *testing.T) {
	plans(t, func(t *testing.T, _ *dice, p api.DifferPlan) {
		if !texts().Notices(p) {
			t.Error(p)
		}
	})
}

// P0.12: with any other byte, or without one, a text is read or refused, and what is read is what is written again.
func TestReadAnyBytes(t *testing.T) {
	for _, text := range texts().Strange(planA()) {
		t.Errorf("%q", text)
	}
}
