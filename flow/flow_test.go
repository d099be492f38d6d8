package flow_test

import (
	"math"
	"math/rand"
	"regexp"
	"slices"
	"strconv"
	"strings"
	"testing"

	"accounting/api"
	"accounting/flow"
)

const most, least = math.MaxInt, math.MinInt

// policy is the policy of the chapter's examples.
var policy = []api.Step{{Up: 100, Need: 0}, {Up: 5000, Need: 2}}

// wrongCodes are texts that are not codes.
var wrongCodes = []string{"", " ", "a b", "ä", "a-b", "abcdefghijklm", "\x00", "\xff", "a\n", strings.Repeat("a", 500)}

// build returns a workflow without errors.
func build(t *testing.T, steps []api.Step, approvers ...string) *flow.Flow {
	t.Helper()
	f, e := flow.New(steps, approvers...)
	if f == nil || e != api.OK {
		t.Fatalf("New(%v, %v) = %v, %d", steps, approvers, f, e)
	}
	return f
}

// want fails unless the errors are those wanted.
func want(t *testing.T, got []api.Errno, wanted ...api.Errno) {
	t.Helper()
	if !slices.Equal(got, wanted) {
		t.Fatalf("the errors are %v, want %v", got, wanted)
	}
}

// names returns n different codes.
func names(n int) (l []string) {
	for i := range n {
		l = append(l, "u"+strconv.Itoa(i))
	}
	return l
}

// increasing returns n steps with the Ups 0, 1, 2 and so on.
func increasing(n int) (l []api.Step) {
	for i := range n {
		l = append(l, api.Step{Up: i, Need: i % 6})
	}
	return l
}

// P15.1
func TestNew(t *testing.T) {
	for i, c := range []struct {
		steps     []api.Step
		approvers []string
		e         api.Errno
	}{
		{nil, nil, api.OK}, {[]api.Step{}, []string{}, api.OK}, {policy, []string{"ann", "bob", "cid"}, api.OK}, {[]api.Step{{Up: 0, Need: 5}}, nil, api.OK}, {[]api.Step{{Up: 0}, {Up: 1}, {Up: most}}, nil, api.OK}, {increasing(200), names(200), api.OK},
		// Too many, whatever else is wrong.
		{increasing(201), nil, api.ErrMany}, {nil, names(201), api.ErrMany}, {make([]api.Step, 201), nil, api.ErrMany}, {[]api.Step{{Up: -1}}, make([]string, 201), api.ErrMany}, {increasing(201), []string{""}, api.ErrMany},
		// A wrong policy, whoever the approvers are.
		{[]api.Step{{Up: -1}}, []string{""}, api.ErrArg}, {[]api.Step{{Up: least}}, nil, api.ErrArg}, {[]api.Step{{Up: 5}, {Up: 5}}, []string{"a", "a"}, api.ErrArg}, {[]api.Step{{Up: 5}, {Up: 4}}, nil, api.ErrArg}, {[]api.Step{{Up: 5}, {Up: 6}, {Up: -1}}, nil, api.ErrArg}, {[]api.Step{{Up: 0}, {Up: 0}}, nil, api.ErrArg}, {[]api.Step{{Up: most}, {Up: least}}, nil, api.ErrArg}, {[]api.Step{{Up: 1}, {Up: 3}, {Up: 2}}, nil, api.ErrArg},
		{[]api.Step{{Up: 5, Need: -1}}, nil, api.ErrArg}, {[]api.Step{{Up: 5, Need: 6}}, nil, api.ErrArg}, {[]api.Step{{Up: 5, Need: 1}, {Up: 6, Need: least}}, nil, api.ErrArg}, {[]api.Step{{Up: 5, Need: most}}, []string{""}, api.ErrArg},
		// The first approver with an error counts.
		{policy, []string{"a", "b", "a", ""}, api.ErrTwice}, {policy, []string{"a", "b", "", "a"}, api.ErrName}, {policy, []string{"", ""}, api.ErrName}, {policy, []string{"a", "A", "aa"}, api.OK}, {nil, []string{"abcdefghijkl"}, api.OK}, {nil, append(names(199), "u0"), api.ErrTwice},
	} {
		f, e := flow.New(c.steps, c.approvers...)
		if e != c.e || (f != nil) != (e == api.OK) {
			t.Errorf("case %d: New(%v, %v) = %v, %d, want %d", i, c.steps, c.approvers, f, e, c.e)
		}
		if e == api.OK && (len(f.Acts()) != 0 || f.State(1) != 0) {
			t.Errorf("case %d: a new workflow has documents", i)
		}
	}
	for _, s := range wrongCodes {
		if f, e := flow.New(nil, "a", s); f != nil || e != api.ErrName {
			t.Errorf("New with the approver %q = %v, %d, want ErrName", s, f, e)
		}
	}
}

// P15.1
func TestNeed(t *testing.T) {
	f := build(t, []api.Step{{Up: 0, Need: 3}, {Up: 500, Need: 0}, {Up: 1000, Need: 1}, {Up: 5000, Need: 5}})
	for _, c := range []struct {
		volume, n int
		ok        bool
	}{
		{least, 3, true}, {-1, 3, true}, {0, 3, true}, {1, 0, true}, {499, 0, true}, {500, 0, true}, {501, 1, true}, {700, 1, true}, {1000, 1, true}, {1001, 5, true}, {5000, 5, true}, {5001, 0, false}, {most, 0, false},
	} {
		if n, ok := f.Need(c.volume); n != c.n || ok != c.ok {
			t.Errorf("Need(%d) = %d, %t, want %d, %t", c.volume, n, ok, c.n, c.ok)
		}
	}
	f = build(t, nil)
	if n, ok := f.Need(0); n != 0 || ok {
		t.Errorf("Need without steps = %d, %t", n, ok)
	}
	f = build(t, []api.Step{{Up: most, Need: 2}})
	if n, ok := f.Need(most); n != 2 || !ok {
		t.Errorf("Need of the greatest volume = %d, %t", n, ok)
	}
}

// P15.1: a workflow keeps neither the steps nor the approvers.
func TestNewKeepsNothing(t *testing.T) {
	steps, approvers := slices.Clone(policy), []string{"ann", "bob"}
	f := build(t, steps, approvers...)
	if !slices.Equal(steps, policy) || !slices.Equal(approvers, []string{"ann", "bob"}) {
		t.Error("New changed its arguments")
	}
	clear(steps)
	approvers[1] = "eve"
	if n, ok := f.Need(700); n != 2 || !ok {
		t.Errorf("Need(700) = %d, %t after a change of the steps", n, ok)
	}
	id, _ := f.Draft("x", 700)
	want(t, []api.Errno{f.Submit(id, "x"), f.Approve(id, "eve"), f.Approve(id, "bob")}, api.OK, api.ErrUser, api.OK)
}

// P15.2
func TestDraft(t *testing.T) {
	f := build(t, policy, "bob")
	for _, s := range wrongCodes {
		if id, e := f.Draft(s, -1); id != 0 || e != api.ErrName {
			t.Errorf("Draft(%q, -1) = %d, %d, want ErrName", s, id, e)
		}
	}
	for _, n := range []int{-1, least} {
		if id, e := f.Draft("ann", n); id != 0 || e != api.ErrArg {
			t.Errorf("Draft(ann, %d) = %d, %d, want ErrArg", n, id, e)
		}
	}
	if len(f.Acts()) != 0 || f.State(1) != 0 {
		t.Error("a failed call had an effect")
	}
	for i, volume := range []int{0, 1, 5001, most} {
		id, e := f.Draft("u"+strconv.Itoa(i), volume)
		if id != i+1 || e != api.OK {
			t.Errorf("Draft(%d) = %d, %d", volume, id, e)
		}
		if f.State(id) != api.Draft || f.Author(id) != "u"+strconv.Itoa(i) || len(f.Approvals(id)) != 0 {
			t.Errorf("document %d: %d, %q, %v", id, f.State(id), f.Author(id), f.Approvals(id))
		}
	}
}

// P15.2
func TestMostDocuments(t *testing.T) {
	f := build(t, policy, "bob")
	for i := range 10000 {
		if id, e := f.Draft("ann", i); id != i+1 || e != api.OK {
			t.Fatalf("Draft %d = %d, %d", i, id, e)
		}
	}
	for range 2 {
		if id, e := f.Draft("ann", 1); id != 0 || e != api.ErrMany {
			t.Errorf("Draft of one document too many = %d, %d, want ErrMany", id, e)
		}
	}
	if id, e := f.Draft("", -1); id != 0 || e != api.ErrName {
		t.Errorf("Draft = %d, %d, want ErrName", id, e)
	}
	if id, e := f.Draft("ann", -1); id != 0 || e != api.ErrArg {
		t.Errorf("Draft = %d, %d, want ErrArg", id, e)
	}
	if len(f.Acts()) != 10000 || f.State(10000) != api.Draft || f.State(10001) != 0 {
		t.Errorf("%d acts, states %d and %d", len(f.Acts()), f.State(10000), f.State(10001))
	}
	// A cancelled document still counts.
	if e := f.Cancel(10000, "ann"); e != api.OK || f.State(10000) != api.Cancelled {
		t.Errorf("Cancel = %d", e)
	}
	if id, e := f.Draft("ann", 1); id != 0 || e != api.ErrMany {
		t.Errorf("Draft after Cancel = %d, %d, want ErrMany", id, e)
	}
}

// P15.3: the chapter's examples.
func TestExamples(t *testing.T) {
	f := build(t, policy, "ann", "bob", "cid")
	f.Draft("ann", 700)
	want(t, []api.Errno{f.Submit(1, "ann"), f.Approve(1, "ann"), f.Approve(1, "bob"), f.Approve(1, "bob")}, api.OK, api.ErrUser, api.OK, api.ErrTwice)
	if f.State(1) != api.Waiting {
		t.Errorf("the state is %d, want Waiting", f.State(1))
	}
	want(t, []api.Errno{f.Approve(1, "cid")}, api.OK)
	if f.State(1) != api.Approved || !slices.Equal(f.Approvals(1), []string{"bob", "cid"}) {
		t.Errorf("the state is %d, the approvals are %v", f.State(1), f.Approvals(1))
	}
	want(t, []api.Errno{f.Post(1, "ann")}, api.OK)
	f.Draft("dan", 50)
	f.Draft("dan", 6000)
	want(t, []api.Errno{f.Submit(2, "dan"), f.Submit(3, "dan")}, api.OK, api.ErrRange)
	if f.State(1) != api.Posted || f.State(2) != api.Approved || f.State(3) != api.Draft {
		t.Errorf("the states are %d, %d and %d", f.State(1), f.State(2), f.State(3))
	}
	acts := []api.Act{
		{Kind: api.ActDraft, Id: 1, User: "ann"}, {Kind: api.ActSubmit, Id: 1, User: "ann"}, {Kind: api.ActApprove, Id: 1, User: "bob"}, {Kind: api.ActApprove, Id: 1, User: "cid"}, {Kind: api.ActPost, Id: 1, User: "ann"},
		{Kind: api.ActDraft, Id: 2, User: "dan"}, {Kind: api.ActDraft, Id: 3, User: "dan"}, {Kind: api.ActSubmit, Id: 2, User: "dan"},
	}
	if !slices.Equal(f.Acts(), acts) {
		t.Errorf("the acts are %v, want %v", f.Acts(), acts)
	}

	// The example of the overview: one approval by an approver who is not the author.
	f = build(t, []api.Step{{Up: 500, Need: 0}, {Up: 1000, Need: 1}}, "ann", "bob")
	f.Draft("ann", 700)
	want(t, []api.Errno{f.Submit(1, "ann"), f.Approve(1, "ann"), f.Approve(1, "eve"), f.Approve(1, "bob"), f.Post(1, "eve"), f.Post(1, "bob")}, api.OK, api.ErrUser, api.ErrUser, api.OK, api.ErrUser, api.OK)
}

// act is one of the methods that act on a document.
type act struct {
	kind int
	call func(f *flow.Flow, id int, user string) api.Errno
}

// acts are all methods that act on a document, in the order of their kinds.
func acts() []act {
	return []act{
		{api.ActSubmit, (*flow.Flow).Submit}, {api.ActApprove, (*flow.Flow).Approve}, {api.ActReject, (*flow.Flow).Reject},
		{api.ActRedraft, (*flow.Flow).Redraft}, {api.ActCancel, (*flow.Flow).Cancel}, {api.ActPost, (*flow.Flow).Post},
	}
}

// inState returns a workflow with the approvers ann, bob and cid, whose only document, of ann, has the volume 700 and the given state; bob has approved it if somebody has.
func inState(t *testing.T, state int) *flow.Flow {
	t.Helper()
	f := build(t, policy, "ann", "bob", "cid")
	f.Draft("ann", 700)
	var errors []api.Errno
	if state != api.Draft && state != api.Cancelled {
		errors = append(errors, f.Submit(1, "ann"), f.Approve(1, "bob"))
	}
	switch state {
	case api.Approved:
		errors = append(errors, f.Approve(1, "cid"))
	case api.Rejected:
		errors = append(errors, f.Reject(1, "bob"))
	case api.Posted:
		errors = append(errors, f.Approve(1, "cid"), f.Post(1, "cid"))
	case api.Cancelled:
		errors = append(errors, f.Cancel(1, "ann"))
	}
	for _, e := range errors {
		if e != api.OK {
			t.Fatalf("a call on the way to state %d returns %d", state, e)
		}
	}
	if f.State(1) != state {
		t.Fatalf("the state is %d, want %d", f.State(1), state)
	}
	return f
}

// P15.3: every method in every state, by every user. A result is an error, or minus the new state.
func TestTransitions(t *testing.T) {
	type key struct{ kind, state int }
	users := []string{"ann", "bob", "cid", "eve"}
	const no, twice = int(api.ErrUser), int(api.ErrTwice)
	permitted := map[key][4]int{
		{api.ActSubmit, api.Draft}:     {-api.Waiting, no, no, no},
		{api.ActApprove, api.Waiting}:  {no, twice, -api.Approved, no},
		{api.ActReject, api.Waiting}:   {no, -api.Rejected, -api.Rejected, no},
		{api.ActRedraft, api.Rejected}: {-api.Draft, no, no, no},
		{api.ActCancel, api.Draft}:     {-api.Cancelled, no, no, no},
		{api.ActCancel, api.Rejected}:  {-api.Cancelled, no, no, no},
		{api.ActPost, api.Approved}:    {-api.Posted, -api.Posted, -api.Posted, no},
	}
	for state := api.Draft; state <= api.Cancelled; state++ {
		for _, a := range acts() {
			for i, user := range users {
				results, known := permitted[key{a.kind, state}]
				result := results[i]
				if !known {
					result = int(api.ErrState)
				}
				f := inState(t, state)
				before, approvals := f.Acts(), f.Approvals(1)
				e := a.call(f, 1, user)
				if result > 0 {
					if e != api.Errno(result) || f.State(1) != state || !slices.Equal(f.Acts(), before) || !slices.Equal(f.Approvals(1), approvals) {
						t.Errorf("act %d in state %d by %s: error %d, then state %d, %v, want error %d and no effect", a.kind, state, user, e, f.State(1), f.Approvals(1), result)
					}
					continue
				}
				if e != api.OK || f.State(1) != -result || !slices.Equal(f.Acts(), append(before, api.Act{Kind: a.kind, Id: 1, User: user})) {
					t.Errorf("act %d in state %d by %s: error %d, then state %d, %v, want state %d", a.kind, state, user, e, f.State(1), f.Acts(), -result)
				}
				switch a.kind {
				case api.ActApprove:
					approvals = append(approvals, user)
				case api.ActRedraft:
					approvals = nil
				}
				if !slices.Equal(f.Approvals(1), approvals) || f.Author(1) != "ann" {
					t.Errorf("act %d in state %d by %s: then %v and %q, want %v", a.kind, state, user, f.Approvals(1), f.Author(1), approvals)
				}
			}
		}
	}
}

// P15.3: no document, then no code, then the state, then the user.
func TestOrderOfErrors(t *testing.T) {
	for state := api.Draft; state <= api.Cancelled; state++ {
		f := inState(t, state)
		for _, a := range acts() {
			for _, id := range []int{0, -1, 2, most, least} {
				for _, user := range []string{"", "ann", "eve"} {
					if e := a.call(f, id, user); e != api.ErrNone {
						t.Errorf("act %d on document %d by %q returns %d, want ErrNone", a.kind, id, user, e)
					}
				}
			}
			for _, user := range wrongCodes {
				if e := a.call(f, 1, user); e != api.ErrName {
					t.Errorf("act %d in state %d by %q returns %d, want ErrName", a.kind, state, user, e)
				}
			}
		}
		if f.State(1) != state {
			t.Errorf("the state became %d, want %d", f.State(1), state)
		}
	}
	// No step applies to this document, but only its author is told so.
	f := build(t, policy, "bob")
	f.Draft("ann", 5001)
	want(t, []api.Errno{f.Submit(1, "bob"), f.Submit(1, "ann")}, api.ErrUser, api.ErrRange)
	if f.State(1) != api.Draft || len(f.Acts()) != 1 {
		t.Errorf("the state is %d, the acts are %v", f.State(1), f.Acts())
	}
	want(t, []api.Errno{f.Cancel(1, "ann"), f.Submit(1, "ann")}, api.OK, api.ErrState)
}

// P15.3: after a rejection all approvals are needed again.
func TestRedraftClearsApprovals(t *testing.T) {
	f := inState(t, api.Rejected)
	if !slices.Equal(f.Approvals(1), []string{"bob"}) {
		t.Errorf("the approvals of the rejected document are %v", f.Approvals(1))
	}
	kept := f.Approvals(1)
	want(t, []api.Errno{f.Redraft(1, "ann")}, api.OK)
	if len(f.Approvals(1)) != 0 || !slices.Equal(kept, []string{"bob"}) {
		t.Errorf("the approvals are %v, those returned before %v", f.Approvals(1), kept)
	}
	want(t, []api.Errno{f.Submit(1, "ann"), f.Approve(1, "cid"), f.Post(1, "ann"), f.Approve(1, "bob"), f.Post(1, "ann")}, api.OK, api.OK, api.ErrState, api.OK, api.OK)
	if !slices.Equal(f.Approvals(1), []string{"cid", "bob"}) {
		t.Errorf("the approvals are %v", f.Approvals(1))
	}
}

// P15.3: the largest number of approvals.
func TestFiveApprovals(t *testing.T) {
	f := build(t, []api.Step{{Up: 9, Need: 5}}, names(6)...)
	f.Draft("u0", 9)
	f.Submit(1, "u0")
	for i, user := range names(6)[1:] {
		if e := f.Approve(1, user); e != api.OK || (f.State(1) == api.Approved) != (i == 4) || len(f.Approvals(1)) != i+1 {
			t.Errorf("approval %d: %d, state %d, %v", i, e, f.State(1), f.Approvals(1))
		}
	}
	want(t, []api.Errno{f.Approve(1, "u1"), f.Reject(1, "u1")}, api.ErrState, api.ErrState)
}

// P15.4: the states have the numbers that api gives them.
func TestStates(t *testing.T) {
	for i, state := range []int{api.Draft, api.Waiting, api.Approved, api.Rejected, api.Posted, api.Cancelled} {
		if f := inState(t, state); f.State(1) != i+1 {
			t.Errorf("the state is %d, want %d", f.State(1), i+1)
		}
	}
	f := inState(t, api.Approved)
	for _, id := range []int{0, -1, 2, most, least} {
		if f.State(id) != 0 || f.Author(id) != "" || len(f.Approvals(id)) != 0 {
			t.Errorf("document %d: %d, %q, %v", id, f.State(id), f.Author(id), f.Approvals(id))
		}
	}
}

// P15.4: results do not share memory with the workflow.
func TestResultsAreCopies(t *testing.T) {
	f := inState(t, api.Waiting)
	f.Acts()[0].User = "eve"
	f.Approvals(1)[0] = "eve"
	_ = append(f.Approvals(1), "eve")
	_ = append(f.Acts(), api.Act{Kind: 99})
	want(t, []api.Errno{f.Approve(1, "cid")}, api.OK)
	if f.Acts()[0].User != "ann" || !slices.Equal(f.Approvals(1), []string{"bob", "cid"}) || f.Acts()[3].User != "cid" {
		t.Errorf("the workflow changed: %v, %v", f.Acts(), f.Approvals(1))
	}
}

// P15.1 to P15.4
func TestNilFlow(t *testing.T) {
	var f *flow.Flow
	if id, e := f.Draft("", -1); id != 0 || e != api.ErrNone {
		t.Errorf("Draft = %d, %d", id, e)
	}
	for _, a := range acts() {
		for _, user := range []string{"", "ann"} {
			if e := a.call(f, 1, user); e != api.ErrNone {
				t.Errorf("act %d returns %d, want ErrNone", a.kind, e)
			}
		}
	}
	n, ok := f.Need(0)
	if f.State(1) != 0 || f.Author(1) != "" || len(f.Approvals(1)) != 0 || len(f.Acts()) != 0 || n != 0 || ok {
		t.Error("a nil workflow has something")
	}
}

var code = regexp.MustCompile(`^[A-Za-z0-9_]{1,12}\z`)

// model is a workflow that knows nothing but its acts.
type model struct {
	steps     []api.Step
	approvers []string
	volumes   []int
	acts      []api.Act
}

// need returns the number of approvals for a volume, or -1.
func (m *model) need(volume int) int {
	for _, s := range m.steps {
		if volume <= s.Up {
			return s.Need
		}
	}
	return -1
}

// look returns the author, the approvals and the state of a document, as its acts tell them.
func (m *model) look(id int) (author string, approvals []string, state int) {
	for _, a := range m.acts {
		if a.Id != id {
			continue
		}
		switch a.Kind {
		case api.ActDraft:
			author, state = a.User, api.Draft
		case api.ActSubmit:
			state = api.Waiting
		case api.ActApprove:
			approvals = append(approvals, a.User)
		case api.ActReject:
			state = api.Rejected
		case api.ActRedraft:
			approvals, state = nil, api.Draft
		case api.ActCancel:
			state = api.Cancelled
		case api.ActPost:
			state = api.Posted
		}
		if state == api.Waiting && len(approvals) >= m.need(m.volumes[id-1]) {
			state = api.Approved
		}
	}
	return author, approvals, state
}

// do performs an act, as the chapter describes it.
func (m *model) do(kind, id int, user string) api.Errno {
	author, approvals, state := m.look(id)
	isAuthor, isApprover := user == author, slices.Contains(m.approvers, user)
	var states []int
	var may bool
	var other api.Errno
	switch kind {
	case api.ActSubmit:
		states, may = []int{api.Draft}, isAuthor
		if state != 0 && m.need(m.volumes[id-1]) < 0 {
			other = api.ErrRange
		}
	case api.ActApprove:
		states, may = []int{api.Waiting}, isApprover && !isAuthor
		if slices.Contains(approvals, user) {
			other = api.ErrTwice
		}
	case api.ActReject:
		states, may = []int{api.Waiting}, isApprover && !isAuthor
	case api.ActRedraft:
		states, may = []int{api.Rejected}, isAuthor
	case api.ActCancel:
		states, may = []int{api.Draft, api.Rejected}, isAuthor
	case api.ActPost:
		states, may = []int{api.Approved}, isAuthor || isApprover
	}
	switch {
	case state == 0:
		return api.ErrNone
	case !code.MatchString(user):
		return api.ErrName
	case !slices.Contains(states, state):
		return api.ErrState
	case !may:
		return api.ErrUser
	case other != api.OK:
		return other
	}
	m.acts = append(m.acts, api.Act{Kind: kind, Id: id, User: user})
	return api.OK
}

// checkDuties fails if a document that is approved or posted lacks approvals of different approvers since it was last submitted.
func (m *model) checkDuties(t *testing.T, f *flow.Flow, id int) {
	t.Helper()
	if s := f.State(id); s != api.Approved && s != api.Posted {
		return
	}
	since := map[string]bool{}
	for _, a := range f.Acts() {
		if a.Id == id && a.Kind == api.ActSubmit {
			clear(since)
		}
		if a.Id == id && a.Kind == api.ActApprove {
			since[a.User] = true
		}
	}
	for user := range since {
		if user == f.Author(id) || !slices.Contains(m.approvers, user) {
			t.Fatalf("document %d was approved by %s", id, user)
		}
	}
	if n := m.need(m.volumes[id-1]); n < 0 || len(since) < n {
		t.Fatalf("document %d needs %d approvals, but has those of %v", id, n, since)
	}
}

// P15.1 to P15.5: random acts, compared with the model after each of them.
func TestRandomActs(t *testing.T) {
	r := rand.New(rand.NewSource(15))
	users := []string{"ann", "bob", "cid", "dan", "eve", "a b"}
	counts := map[api.Errno]int{}
	reached := map[int]int{}
	for range 1500 {
		m := &model{steps: []api.Step{{Up: 1, Need: r.Intn(2)}, {Up: 5, Need: r.Intn(4)}, {Up: 7, Need: r.Intn(6)}}[:r.Intn(4)], approvers: users[r.Intn(3) : 3+r.Intn(3)]}
		f := build(t, m.steps, m.approvers...)
		for range 250 {
			user := users[r.Intn(len(users))]
			if r.Intn(12) == 0 {
				volume := r.Intn(10)
				if id, e := f.Draft(user, volume); e == api.OK {
					m.volumes = append(m.volumes, volume)
					m.acts = append(m.acts, api.Act{Kind: api.ActDraft, Id: id, User: user})
				}
				continue
			}
			a := acts()[r.Intn(6)]
			id := r.Intn(len(m.volumes) + 2)
			if r.Intn(3) > 0 {
				// Most acts are those of the author.
				if author := f.Author(id); author != "" && a.kind != api.ActApprove && a.kind != api.ActReject {
					user = author
				}
			}
			wanted := m.do(a.kind, id, user)
			if e := a.call(f, id, user); e != wanted {
				t.Fatalf("act %d on document %d by %q returns %d, want %d, after %v", a.kind, id, user, e, wanted, m.acts)
			}
			counts[wanted]++
			author, approvals, state := m.look(id)
			reached[state]++
			if f.Author(id) != author || f.State(id) != state || !slices.Equal(f.Approvals(id), approvals) {
				t.Fatalf("document %d: %q, %d, %v, want %q, %d, %v, after %v", id, f.Author(id), f.State(id), f.Approvals(id), author, state, approvals, m.acts)
			}
			m.checkDuties(t, f, id)
		}
		if !slices.Equal(f.Acts(), m.acts) {
			t.Fatalf("the acts are %v, want %v", f.Acts(), m.acts)
		}
		for id := range m.volumes {
			m.checkDuties(t, f, id+1)
		}
	}
	for _, e := range []api.Errno{api.OK, api.ErrNone, api.ErrName, api.ErrState, api.ErrUser, api.ErrRange, api.ErrTwice} {
		if counts[e] < 20 {
			t.Errorf("error %d occurred only %d times", e, counts[e])
		}
	}
	for state := api.Draft; state <= api.Cancelled; state++ {
		if reached[state] < 100 {
			t.Errorf("state %d occurred only %d times", state, reached[state])
		}
	}
}
