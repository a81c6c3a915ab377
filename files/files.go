// Package files: see doc/01-files.md.
package files

import (
	"slices"
	"strings"

	"postilion/api"
)

// file keeps its text as bytes, so that what is put behind is always copied
// and what is read is always new memory.
type file struct {
	name string
	text []byte
}

// Files stand in the order in which they came: they are few, so they are
// sorted only where they are told.
type Files struct{ list []file }

func Name(s string) bool { return within(s, api.MaxName, 'a', 'z') }

func Changes(kind int) bool {
	switch kind {
	case api.CMake, api.CRemove, api.CRename, api.CAppend:
		return true
	}
	return false
}

// Check asks in the chapter's order, because the first code that is so is told.
func Check(c api.Call) int {
	switch {
	case c.Kind < api.CMake || c.Kind > api.CList:
		return api.ErrKind
	case !formed(c):
		return api.ErrForm
	case !named(c):
		return api.ErrName
	case c.Kind == api.CAppend && !within(c.Text, api.MaxPut, 32, 126):
		return api.ErrLong
	}
	return 0
}

// formed: has the call no part that its kind has no use for?
func formed(c api.Call) bool {
	return (c.Name == "" || c.Kind != api.CList) &&
		(c.To == "" || c.Kind == api.CRename) &&
		(c.Text == "" || c.Kind == api.CAppend)
}

// named: are all names that the call's kind needs names?
func named(c api.Call) bool {
	return (c.Kind == api.CList || Name(c.Name)) &&
		(c.Kind != api.CRename || Name(c.To))
}

// within: is s of 1 to most bytes, all of them from low to high?
// The length is asked first, so that a text of any size costs no more than a short one.
func within(s string, most int, low, high byte) bool {
	if len(s) < 1 || len(s) > most {
		return false
	}
	return !slices.ContainsFunc([]byte(s), func(b byte) bool { return b < low || b > high })
}

func New() *Files { return &Files{} }

func (f *Files) Do(c api.Call) api.Answer {
	if code := Check(c); code != 0 {
		return api.Answer{Code: code}
	}
	switch c.Kind {
	case api.CMake:
		return api.Answer{Code: f.create(c.Name)}
	case api.CList:
		return api.Answer{Text: strings.Join(f.Names(), " ")}
	}
	at := f.find(c.Name)
	if at < 0 {
		return api.Answer{Code: api.ErrNone}
	}
	switch c.Kind {
	case api.CRemove:
		f.list = slices.Delete(f.list, at, at+1)
	case api.CRename:
		return api.Answer{Code: f.rename(at, c.To)}
	case api.CAppend:
		return api.Answer{Code: f.list[at].put(c.Text)}
	case api.CRead:
		return api.Answer{Text: string(f.list[at].text)}
	}
	return api.Answer{}
}

// Names clones, so that no answer shares memory with what is kept.
func (f *Files) Names() []string {
	names := make([]string, 0, len(f.list))
	for _, x := range f.list {
		names = append(names, strings.Clone(x.name))
	}
	slices.Sort(names)
	return names
}

func (f *Files) find(name string) int {
	return slices.IndexFunc(f.list, func(x file) bool { return x.name == name })
}

// create clones the name, because what is handed in is not kept.
func (f *Files) create(name string) int {
	if f.find(name) >= 0 {
		return api.ErrThere
	}
	if len(f.list) >= api.MaxFiles {
		return api.ErrFull
	}
	f.list = append(f.list, file{name: strings.Clone(name)})
	return 0
}

// rename refuses the file's own name like any other that is taken.
func (f *Files) rename(at int, to string) int {
	if f.find(to) >= 0 {
		return api.ErrThere
	}
	f.list[at].name = strings.Clone(to)
	return 0
}

func (x *file) put(text string) int {
	if len(x.text)+len(text) > api.MaxText {
		return api.ErrFull
	}
	x.text = append(x.text, text...)
	return 0
}
