package script

import (
	"fmt"
	"slices"
	"strings"
	"testing"

	"pleach/api"
	"pleach/calls"
	"pleach/line"
	"pleach/model"
	"pleach/sample"
)

// tells is told whether lines tell what is wanted.
func tells(t *testing.T, want string, lines ...string) {
	t.Helper()
	s, e := Run(strings.Join(lines, "\n"))
	if s != want || e != api.OK {
		t.Errorf("%q:\n%swant:\n%s%v", lines, s, want, e)
	}
}

func TestP44_2_Limit(t *testing.T) {
	for _, n := range []int{8001, 8002, 100000} {
		if s, e := Run(strings.Repeat("\n", n)); s != "" || e != api.ErrLimit {
			t.Errorf("%q %v", s, e)
		}
	}
	long := "disk 16\nrefs\n"
	if s, e := Run(long + strings.Repeat("#", 8000-len(long))); s != "ok\nok\n" || e != api.OK {
		t.Errorf("%q %v", s, e)
	}
	if s, e := Run(strings.Repeat("\n", 7992) + "disk 99\n"); s != "ok\n" || e != api.OK {
		t.Errorf("%q %v", s, e)
	}
}

func TestP44_2_WhatIsPassedOver(t *testing.T) {
	for _, s := range []string{"", "\n", "\n\n\n", "#", "# disk 16\n#refs\n", "#1\n\n#\n", "##"} {
		tells(t, "", s)
	}
	tells(t, "ok\nok\n", "", "# a remark", "disk 16", "", "#", "refs", "")
	tells(t, "error 17\nerror 17\nerror 17\n", " ", " #", "\t", "")
	tells(t, "error 17\n", "refs\r")
}

func TestP44_2_Disk(t *testing.T) {
	for _, s := range []string{"disk 16", "disk 4096", "disk 17"} {
		tells(t, "ok\nok 0 0 1\n", s, "stat")
	}
	for _, s := range []string{"disk 15", "disk 4097", "disk 0", "disk 9223372036854775807"} {
		tells(t, "error 2\n", s)
		tells(t, "ok\nok #1\nerror 2\nok 1 1 2\nok #2\n", "disk 64", "commit m - - ; +node a", s, "stat", "commit m #1 -") // all is as it was
	}
	tells(t, "ok\nok #1\nok\nok 0 0 1\nerror 13\nok #1\nerror 13\n", "disk 64", "commit m - -", "disk 32", "stat", "log #1", "commit x - -", "log #2") // and an empty book
	tells(t, "ok\nok\nok\nok\n", "disk 64", "arm 1", "disk 64", "refs")
}

// Numbers are digits without noughts ahead, from 0 to 2^63 - 1; what has others is no line.
func TestP44_2_Numbers(t *testing.T) {
	for _, n := range []string{"", "-1", "-0", "+1", "01", "00", "1.0", "0x10", "1e3", "a", "9223372036854775808", "99999999999999999999", "１", "1 ", " 1", "1\t", "1_0"} {
		for _, word := range []string{"disk", "arm", "crash"} {
			tells(t, "ok\nerror 17\nok\n", "disk 16", word+" "+n, "refs")
		}
	}
	for _, s := range []string{"disk", "disk 16 16", "arm", "arm 1 2", "open 1", "open ", "crash ", "crash  1", " disk 16", "Disk 16", "crash 1 x", "arms 1", "disk  16"} {
		tells(t, "ok\nerror 17\nok\n", "disk 16", s, "refs")
	}
	tells(t, "ok\nok\nok\nok\n", "disk 16", "arm 9223372036854775807", "arm 0", "crash 0 9223372036854775807 0")
}

// Ahead of a disk, and behind a crash, there is nothing to work on.
func TestP44_2_NoDiskAndNoRepository(t *testing.T) {
	all := []string{
		"commit m - -", "branch x #1", "tag x #1", "move x #1 #2", "delete x #1", "untag x #1", "checkout #1", "node #1 a", "out #1 a", "in #1 a", "labelled #1 a", "diff #1 #2", "merge m #1 #2 -", "base #1 #2", "log #1", "refs", "repack", "collect", "stat",
	}
	for _, s := range append(all, "arm 1", "crash", "crash 1 2", "open") {
		tells(t, "error 1\n", s)
	}
	for _, s := range all {
		tells(t, "ok\nok\nerror 1\n", "disk 16", "crash", s)
		tells(t, "ok\nok\nerror 1\nok\nok 0 0 1\n", "disk 16", "crash", s, "open", "stat")
	}
	tells(t, "error 17\nok\nok\nerror 17\n", "what", "disk 16", "crash", "what") // no line is none, whatever is there
	tells(t, "ok\nok\nok\nerror 7\nok\nok\n", "disk 16", "crash", "crash 3", "arm 1", "open", "refs")
}

// What was answered is there, what was under way as a whole or not at all: by the step at which the power goes, and what is kept.
func TestP44_2_ArmCrashAndOpen(t *testing.T) {
	for step := 1; step < 9; step++ {
		for _, keep := range []string{"", " 0", " 1", " 0 1", " 0 1 2 3"} {
			lines := []string{"disk 64", "commit m - - ; +node a", fmt.Sprint("arm ", step), "commit m #1 - ; +node b", "refs", "crash" + keep, "stat", "open", "stat", "log #1", "commit x - -"}
			told := "error 7\nerror 7\n"
			behind := "ok 1 1 2\nok\n  #1\nok #2\n"
			switch {
			case step == 7 && strings.Contains(keep, "0"): // the record is kept
				behind = "ok 2 1 3\nok\n  #1\nok #2\n"
			case step > 7:
				told, behind = "ok #2\nok\n  branch m #2\n", "ok 2 1 3\nok\n  #1\nok #3\n"
			}
			tells(t, "ok\nok #1\nok\n"+told+"ok\nerror 1\nok\n"+behind, lines...)
		}
	}
}

// A book goes on behind an opening; it forgets what the disk has not.
func TestP44_2_TheBook(t *testing.T) {
	tells(t, "ok\nok #1\nok #2\nok\nok\n  #2\n  #1\nok #3\n", "disk 64", "commit m - -", "commit m #1 -", "open", "log #2", "commit m #2 -")
	tells(t, "ok\nok #1\nerror 13\nerror 13\nerror 12\nok #2\n", "disk 64", "commit m - -", "log #2", "log #0", "commit m #7 -", "commit m #1 -")
	tells(t, "ok\nok #1\nok\nok\nerror 13\nok #2\n", "disk 64", "commit m - -", "delete m #1", "collect", "log #1", "commit m - -")
}

func TestP44_3_WhatIsTold(t *testing.T) {
	tells(t, `ok
ok #1
error 9 at 1
error 10
error 11 at 2
ok
  node a :x :y k='v
  node b n=-12
  edge e a b :m w=true
  edge f b b
ok
  node a :x :y k='v
ok
  edge f b b
ok
  edge e a b :m w=true
  edge f b b
ok
  node a :x :y k='v
error 9
ok
ok #2
ok
  +node c
  -label a x
  !property a k
  -property b n
  !edge e
  -edge f
  +edge g
  -mark e m
  +mark g z
  +attribute e v
  -attribute e w
ok
  -node c
  +label a x
  !property a k
  +property b n
  !edge e
  +edge f
  -edge g
  +mark e m
  -mark g z
  -attribute e v
  +attribute e w
`,
		"disk 200", "commit main - - ; +node a ; +label a y ; +label a x ; +prop a k 'v ; +node b ; +prop b n -12 ; +edge e a b ; +mark e m ; +attr e w true ; +edge f b b",
		"commit main #1 - ; +node c ; -edge z", "commit main - -", "commit main #1 - ; -edge e ; +edge e a a ; -node a", "checkout #1", "node #1 a", "out #1 b", "in #1 b", "labelled #1 x", "node #1 z", "labelled #1 z",
		"commit main #1 - ; +node c ; -label a x ; -prop b n ; +prop a k 'w ; +edge g c a ; -edge f ; -edge e ; +edge e b a ; +mark g z ; +attr e v 1", "diff #1 #2", "diff #2 #1")
}

func TestP44_3_ConflictsLogAndRefs(t *testing.T) {
	tells(t, `ok
ok #1
ok
ok
ok #2
ok #3
error 14
  stray label b l
  both property a k
  end edge e
ok
  branch main #2
  branch x #3
  tag v #1
ok
  #3
  #1
ok #1
ok 3 3 4
ok
ok #1
error 10
error 13
`,
		"disk 200", "commit main - - ; +node a ; +node b ; +prop a k 1", "branch x #1", "tag v #1", "commit main #1 - ; -node b ; +prop a k 2", "commit x #1 - ; +label b l ; +prop a k 3 ; +edge e a b",
		"merge main #2 #3 -", "refs", "log #3", "base #2 #3", "stat", "repack", "base #1 #3", "merge main #2 #2 -", "merge main #2 #4 -")
	tells(t, "ok\nok #1\nok #2\nok #3\nok\n  #3\n  #2\n  #1\nok\n  node a\n  node b\n", "disk 200", "commit main - - ; +node a", "commit x - note ; +node b", "merge main #1 #2 merged", "log #3", "checkout #3")
}

// What is told of a commit that the book does not have is its name.
func TestP44_3_ANameThatTheBookDoesNotHave(t *testing.T) {
	s, _ := Run("disk 64\ncommit m - -\narm 5\ncommit m #1 -\ncrash 0\nopen\nrefs")
	begin := "ok\nok #1\nok\nerror 7\nok\nok\nok\n  branch m "
	if name, ok := strings.CutPrefix(s, begin); !ok || len(name) != 33 {
		t.Errorf("%q", s)
	}
}

// teller tells answers, as the document says it.
func teller(a api.Answer) string {
	s := "ok"
	if a.Err != 0 {
		s = fmt.Sprint("error ", int(a.Err))
	}
	if a.At > 0 {
		s += fmt.Sprint(" at ", a.At)
	}
	if a.Hash != "" {
		s += " " + a.Hash
	}
	for _, n := range a.Nums {
		s += fmt.Sprint(" ", n)
	}
	kinds := []string{"", "node", "label", "property", "edge", "mark", "attribute"}
	for _, l := range line.Graph(a.Graph) {
		s += "\n  " + l
	}
	for _, c := range a.Changes {
		sign := map[[2]bool]string{{true, true}: "!", {true, false}: "-", {false, true}: "+"}[[2]bool{c.Was, c.Is}]
		s += strings.TrimRight(fmt.Sprint("\n  ", sign, kinds[c.Kind], " ", c.Id, " ", c.Key), " ")
	}
	for _, c := range a.Conflicts {
		s += strings.TrimRight(fmt.Sprint("\n  ", []string{"", "both", "end", "stray"}[c.Why], " ", kinds[c.Kind], " ", c.Id, " ", c.Key), " ")
	}
	for _, l := range a.Log {
		s += "\n  " + l
	}
	for _, r := range a.Refs {
		s += fmt.Sprint("\n  ", []string{"", "branch", "tag"}[r.Kind], " ", r.Name, " ", r.Hash)
	}
	return s + "\n"
}

// Whatever is drawn is told as the model answers it, whatever opens the disk between.
func TestP44_2_AsTheModel(t *testing.T) {
	var d sample.Dice
	for range 60 {
		m := model.New()
		text, want := "disk 4096\n", "ok\n"
		for range 200 {
			c := calls.Drawn(&d, m.Seen(), 3)
			c.Note = ""
			l, e := line.Show(pruned(c))
			if e != api.OK || len(c.Ops) > 12 {
				continue
			}
			if d.Below(9) == 0 {
				l, c = []string{"open", "crash\nopen", "crash 0 1\nopen"}[d.Below(3)], api.Call{}
			}
			if len(text)+len(l) >= 8000 {
				break
			}
			text += l + "\n"
			if c.Kind == 0 {
				want += strings.Repeat("ok\n", 1+strings.Count(l, "\n"))
				continue
			}
			want += teller(m.Do(c))
		}
		s, e := Run(text)
		if s != want || e != api.OK {
			t.Fatalf("%s\n%s\nwant\n%s", text, s, want)
		}
	}
}

// pruned is a call without what its line does not name.
func pruned(c api.Call) api.Call {
	bare := api.Call{Kind: c.Kind}
	named := map[int]string{
		api.CCommit: "no", api.CBranch: "nh", api.CTag: "nh", api.CMove: "noh", api.CDelete: "no", api.CUntag: "no", api.CCheckout: "h", api.CNode: "hi", api.COut: "hi", api.CIn: "hi", api.CLabelled: "hi",
		api.CDiff: "ha", api.CMerge: "noh", api.CBase: "ha", api.CLog: "h",
	}[c.Kind]
	for _, x := range []struct {
		letter   string
		to, from *string
	}{{"n", &bare.Name, &c.Name}, {"o", &bare.Old, &c.Old}, {"h", &bare.Hash, &c.Hash}, {"a", &bare.Other, &c.Other}, {"i", &bare.Id, &c.Id}} {
		if strings.Contains(named, x.letter) {
			*x.to = *x.from
		}
	}
	if c.Kind == api.CCommit {
		bare.Ops = c.Ops
	}
	return bare
}

// What a text tells is what its first lines tell, and then more.
func TestP44_4_FirstLines(t *testing.T) {
	lines := []string{
		"refs", "# a remark", "disk 40", "commit m - - ; +node a ; +prop a k 'x", "branch x #1", "", "commit m #1 n ; +node b", "what", "commit x #1 - ; -node a", "merge m #2 #3 -", "arm 3", "tag v #1", "refs", "crash 0 1", "open", "refs",
		"repack", "log #2", "disk 3", "disk 16", "commit m - - ; +node a", "tag a #1", "tag b #1", "tag c #1", "tag d #1", "tag e #1", "collect", "stat",
	}
	ahead := ""
	for n := range len(lines) + 1 {
		text := strings.Join(lines[:n], "\n")
		s, e := Run(text)
		more, ok := strings.CutPrefix(s, ahead)
		if !ok || e != api.OK || n > 0 && (more == "") != (lines[n-1] == "" || lines[n-1][0] == '#') || more != "" && !strings.HasSuffix(more, "\n") {
			t.Fatalf("%q: %q", lines[n-1], s)
		}
		if again, _ := Run(text + "\n"); again != s {
			t.Fatalf("%q", again)
		}
		ahead = s
	}
	if n := strings.Count(ahead, "\nerror 6\n"); n == 0 || !slices.Contains(strings.Split(ahead, "\n"), "error 7") {
		t.Errorf("%s", ahead)
	}
}
