package differ_test

import (
	"strings"
	"testing"

	"ephemerist/api"
	"ephemerist/differ"
	"ephemerist/trial"
)

const oneText = "plan 1 0\nstart 5 5\nend 116\n"

func checked(lines ...string) string { return trial.Checked(227, lines...) }

// P1.8
func TestPrint(t *testing.T) {
	for i, x := range []struct {
		p    api.DifferPlan
		want string
	}{
		{plan(1, 0, span(5, 5)), oneText},
		{planA(), checked("plan 5 2", "start 1047 1049", "start 250 251", "start -40 -40")},
		{plan(12, 3, span(-99999, -99993), span(-3, 0), span(0, 6), span(99993, 99999)), checked("plan 12 3", "start -99999 -99993", "start -3 0", "start 0 6", "start 99993 99999")},
	} {
		if got, e := differ.Print(x.p); e != api.OK || got != x.want {
			t.Errorf("%d: %q %v", i, got, e)
		}
	}
}

// P1.8
func TestReadForm(t *testing.T) {
	swap := func(old, new string) string { return strings.Replace(oneText, old, new, 1) }
	for _, text := range []string{
		"", "\n", "plan", "plan 1 0", "plan 1 0\n", "start 5 5\n", "end 000\n", "end 116", "plan 1 0\nstart 5 5\n", "start 5 5\nend 116\n",
		"\n" + oneText, oneText + "\n", " " + oneText, oneText + " ", strings.TrimSuffix(oneText, "\n"), oneText[1:], oneText + oneText, strings.ToUpper(oneText),
		swap("\n", "\r\n"), swap("\n", "\n\n"), swap("\n", " \n"), swap(" ", "\t"), swap(" ", ""), swap(" ", "  "), swap("plan", "plane"), swap("start", "stark"), swap("end", "ende"),
		swap("116", "117"), swap("116", "16"), swap("116", "0116"), swap("116", "343"), swap("116", "+16"), swap("116", "11x"), swap("116", ""), swap("end 116", "end 116 0"), swap("end 116", "end"),
		checked("start 5 5"), checked("start 5 5", "plan 1 0"), checked("plan 1 0", "plan 1 0"), checked("plan 1 0", "start 5 5", "plan 1 0"), checked("plan 1 0", "end 078"), checked("plan 1 0", "end 078", "start 5 5"), checked("end 000"), oneText + "end 000\n", oneText + "start 5 5\n",
		strings.Repeat("x", 110), strings.Repeat("\n", 110), strings.Repeat(" ", 110),
	} {
		refused(t, text)
	}
}

// P1.8: a line that is not of the form is refused with its own CHECK and with that of the line that it could be taken for.
func TestReadLines(t *testing.T) {
	for _, first := range []string{
		"plan 1", "plan 1 0 0", "plan 1  0", "plan  1 0", "plan 1 0 ", " plan 1 0", "plan 1 ", "plan  0", "plan 01 0", "plan +1 0", "plan -1 0", "plan 1 -0", "plan 1 00", "plan 1 x", "plan 0x1 0", "plan 1_0 0", "plan 1.0 0",
		"plan 100000 0", "plan 1 100000", "plan 18446744073709551617 0", "plan 1 0\r", "plan 1 0\x00", "plan \u0661 0", "plan 1 \xff", "Plan 1 0", "pla 1 0", "1 0", "",
	} {
		refused(t, checked(first, "start 5 5"))
		refused(t, first+"\nstart 5 5\nend 116\n")
	}
	for _, second := range []string{
		"start 5", "start 5 5 5", "start 5  5", "start  5 5", "start 5 5 ", " start 5 5", "start 5 ", "start  5", "start 05 5", "start 5 05", "start +5 5", "start - 5", "start 5 -", "start --5 5", "start 5 5-", "start 5x 5",
		"start 100000 5", "start 5 100000", "start -100000 5", "start 5 18446744073709551621", "start 5 5\r", "start 5 5\x00", "start \u0665 5", "start 5 \xff", "Start 5 5", "begin 5 5", "5 5", "",
	} {
		refused(t, checked("plan 1 0", second))
		refused(t, "plan 1 0\n"+second+"\nend 116\n")
	}
	zero := checked("plan 1 0", "start 0 0")
	for _, second := range []string{"start -0 0", "start 0 -0", "start 00 0", "start  0", "start 0 ", "start - 0", "start -00 0"} {
		refused(t, checked("plan 1 0", second))
		refused(t, strings.Replace(zero, "start 0 0", second, 1))
	}
	if _, e := differ.Read(zero); e != api.OK {
		t.Error(e)
	}
}

func refused(t *testing.T, text string) {
	t.Helper()
	if p, e := differ.Read(text); e != api.ErrText || !samePlan(p, api.DifferPlan{}) {
		t.Errorf("%q %v %v", text, p, e)
	}
}

// P1.8: ErrLong comes before ErrText, and ErrText before ErrArg.
func TestReadErrors(t *testing.T) {
	const far = "start -99999 -99993"
	most := checked("plan 12 3", far, far, far, far, "start 100 1")
	long := checked("plan 12 3", far, far, far, far, "start 1000 1")
	if len(most) != api.DifferText || len(long) != api.DifferText+1 {
		t.Fatal(len(most), len(long))
	}
	for i, x := range []struct {
		text string
		want api.Errno
	}{
		{strings.Repeat("x", 111), api.ErrLong}, {oneText + strings.Repeat("\n", 111-len(oneText)), api.ErrLong}, {long, api.ErrLong},
		{strings.Repeat("x", 110), api.ErrText}, {strings.Replace(checked("plan 0 0"), "end ", "end 9", 1), api.ErrText},
		{most, api.ErrArg}, {checked("plan 1 0"), api.ErrArg}, {checked("plan 0 0", "start 5 5"), api.ErrArg}, {checked("plan 13 0", "start 5 5"), api.ErrArg}, {checked("plan 99999 0", "start 5 5"), api.ErrArg}, {checked("plan 1 4", "start 5 5"), api.ErrArg}, {checked("plan 1 99999", "start 5 5"), api.ErrArg},
		{checked("plan 1 0", "start 5 4"), api.ErrArg}, {checked("plan 1 0", "start 5 12"), api.ErrArg}, {checked("plan 1 0", "start 0 0", "start 0 0", "start 0 0", "start 0 0", "start 0 0"), api.ErrArg},
	} {
		if p, e := differ.Read(x.text); e != x.want || !samePlan(p, api.DifferPlan{}) {
			t.Errorf("%d: %q %v %v", i, x.text, p, e)
		}
	}
}

// P1.8, P0.11: what was written is read as what was written.
func TestReadWhatWasWritten(t *testing.T) {
	widest := span(-99999, -99993)
	for _, p := range []api.DifferPlan{plan(1, 0, span(0, 0)), plan(12, 3, widest, widest, widest, widest), plan(3, 1, span(-6, 0), span(99999, 99999))} {
		readBack(t, nil, p)
	}
	plans(t, readBack)
}

func readBack(t *testing.T, _ *dice, p api.DifferPlan) {
	text, e := differ.Print(p)
	if e != api.OK || len(text) > api.DifferText {
		t.Fatalf("%v %q %v", p, text, e)
	}
	if got, e := differ.Read(text); e != api.OK || !samePlan(got, p) {
		t.Fatalf("%v %q %v %v", p, text, got, e)
	}
}

// P1.8: one digit that was changed is noticed.
func TestChangedDigit(t *testing.T) {
	plans(t, func(t *testing.T, d *dice, p api.DifferPlan) {
		text, _ := differ.Print(p)
		for _, changed := range trial.OtherDigits(text) {
			if _, e := differ.Read(changed); e != api.ErrText {
				t.Fatalf("%q %q %v", text, changed, e)
			}
		}
	})
}

// P0.12: with any other byte, or without one, a text is read or refused, and what is read is what is written again.
func TestReadAnyBytes(t *testing.T) {
	text, _ := differ.Print(planA())
	for _, changed := range trial.OtherBytes(text) {
		p, e := differ.Read(changed)
		if e != api.OK {
			continue
		}
		if again, f := differ.Print(p); f != api.OK || again != changed {
			t.Fatalf("%q %q %v", changed, again, f)
		}
	}
}
