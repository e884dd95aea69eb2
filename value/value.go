// Package value is layer 6: see ../../shared/doc/06-value.md.
package value

import (
	"cmp"
	"strconv"
	"strings"

	"pleach/api"
	"pleach/scan"
	"pleach/sha"
)

// The first byte of a text that is shown: as it is, or to the base 16.
const (
	plainMark = "'"
	hexMark   = "#"
)

// Check tells whether a value may be.
func Check(v api.Value) api.Errno {
	ok := false
	switch v.Kind {
	case api.VBool:
		ok = (v.Num == 0 || v.Num == 1) && v.Text == ""
	case api.VInt:
		ok = v.Text == ""
	case api.VText:
		ok = v.Num == 0 && len(v.Text) <= api.MaxText
	}
	if !ok {
		return api.ErrArg
	}
	return api.OK
}

// Put is a value's bytes.
func Put(v api.Value) (string, api.Errno) {
	if e := Check(v); e != api.OK {
		return "", e
	}
	return string([]byte{byte(v.Kind)}) + putRest(v), api.OK
}

func putRest(v api.Value) string {
	switch v.Kind {
	case api.VBool:
		return string([]byte{byte(v.Num)})
	case api.VInt:
		return scan.PutInt(v.Num)
	}
	return scan.PutText(v.Text)
}

// Read reads a value.
func Read(r *scan.Scan) api.Value {
	v := api.Value{Kind: r.Byte()}
	switch v.Kind {
	case api.VBool:
		v.Num = r.Byte()
	case api.VInt:
		v.Num = r.Int()
	case api.VText:
		v.Text = r.Text(api.MaxText)
	}
	if Check(v) != api.OK {
		r.Fail(api.ErrForm)
	}
	if r.Err() != api.OK {
		return api.Value{}
	}
	return v
}

// Take is the value of bytes.
func Take(s string) (api.Value, api.Errno) {
	r := scan.New(s)
	v := Read(r)
	if e := r.End(); e != api.OK {
		return api.Value{}, e
	}
	return v, api.OK
}

// Compare tells which of two stands first: by their kinds, then their numbers, then their texts.
func Compare(a, b api.Value) int {
	return cmp.Or(cmp.Compare(a.Kind, b.Kind), cmp.Compare(a.Num, b.Num), cmp.Compare(a.Text, b.Text))
}

// Show is a value as a word.
func Show(v api.Value) string {
	if Check(v) != api.OK {
		return ""
	}
	switch v.Kind {
	case api.VBool:
		return strconv.FormatBool(v.Num == 1)
	case api.VInt:
		return strconv.Itoa(v.Num)
	}
	if isPlain(v.Text) {
		return plainMark + v.Text
	}
	return hexMark + sha.Hex(v.Text)
}

func isPlain(s string) bool {
	for i := range len(s) {
		if !mayStand(s[i]) {
			return false
		}
	}
	return true
}

func mayStand(c byte) bool {
	switch {
	case 'a' <= c && c <= 'z', 'A' <= c && c <= 'Z', '0' <= c && c <= '9':
		return true
	}
	return c == '-' || c == '.' || c == '_'
}

// Parse is the value of a word.
func Parse(s string) (api.Value, api.Errno) {
	v := guess(s)
	if s == "" || Show(v) != s { // one value may be guessed from several words, and shown as one of them
		return api.Value{}, api.ErrForm
	}
	return v, api.OK
}

// guess is the only value whose Show a word can be, if it is one's at all.
func guess(s string) api.Value {
	switch s {
	case "true":
		return api.Value{Kind: api.VBool, Num: 1}
	case "false":
		return api.Value{Kind: api.VBool}
	}
	if text, ok := strings.CutPrefix(s, plainMark); ok {
		return api.Value{Kind: api.VText, Text: text}
	}
	if digits, ok := strings.CutPrefix(s, hexMark); ok {
		text, _ := sha.Unhex(digits)
		return api.Value{Kind: api.VText, Text: text}
	}
	n, _ := strconv.Atoi(s)
	return api.Value{Kind: api.VInt, Num: n}
}
