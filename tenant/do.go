package tenant

import (
	"paravent/api"
	"paravent/cloak"
	"paravent/plan"
	"paravent/token"
	"paravent/wire"
)

// call is a request that is made of a tenant, and who asks: a member, with its table and what the ticket grants by which it asks.
type call struct {
	*Tenant
	request api.Request
	draw    uint64
	now     int
	member  api.Member
	own     *token.Table
	grant   api.Grant
}

// Do does a request.
func (t *Tenant) Do(r api.Request, draw uint64, now int) api.Answer {
	switch {
	case !t.isMade():
		return answer(api.StUnknown)
	case !wire.Right(r) || !within(now, 0, api.MaxTick):
		return answer(api.StBad)
	}
	c, known := t.asked(r, draw, now)
	if !known {
		return c.noted(api.Nobody, answer(api.StUnknown))
	}
	if t.members.Spend(r.User) != api.OK {
		return answer(api.StQuota)
	}
	return c.noted(r.User, c.done(c.work()))
}

// asked is a request with who asks, and whether that is a member with one of its tickets: who is none has no table.
func (t *Tenant) asked(r api.Request, draw uint64, now int) (call, bool) {
	member, _ := t.members.Find(r.User)
	own := t.tables[r.User]
	grant, live := own.Live(r.Secret, now)
	return call{t, r, draw, now, member, own, grant}, live
}

// noted is an answer, of which an event of a user tells. As all else is done by then, no answer tells its own event.
func (c call) noted(user int, a api.Answer) api.Answer {
	c.trail.Put(api.Event{User: user, Op: c.request.Op, Status: a.Status, Tick: c.now})
	return a
}

// done is the answer to what an operation does, if the right that it wants is granted.
func (c call) done(right int, do func() api.Answer) api.Answer {
	if c.grant.Ops&right != right || right == api.MayRule && c.member.User != 0 {
		return answer(api.StDenied)
	}
	return do()
}

// work is the right that the operation wants, if it wants one, and what it does.
func (c call) work() (right int, do func() api.Answer) {
	switch c.request.Op {
	case api.OpEnrol:
		return api.MayRule, c.enrolWhom
	case api.OpDismiss:
		return api.MayRule, c.dismissWhom
	case api.OpPolicy:
		return api.MayRule, c.policy
	case api.OpMint:
		return api.MayRule, c.mint
	case api.OpAttenuate:
		return 0, c.attenuate
	case api.OpRevoke:
		return 0, c.revoke
	case api.OpProfile:
		return api.MayOwn, c.profile
	case api.OpReport:
		return api.MayOwn, c.report
	case api.OpRemove:
		return api.MayOwn, c.removeOwn
	case api.OpPublish:
		return api.MayCloak, c.publish
	case api.OpWithdraw:
		return api.MayCloak, c.withdraw
	case api.OpWhere:
		return api.MayOwn, c.where
	case api.OpWindow:
		return api.MaySee, c.window
	case api.OpNear:
		return api.MaySee, c.near
	case api.OpCloaks:
		return api.MaySee, c.cloaks
	case api.OpNearCloaks:
		return api.MaySee, c.nearCloaks
	case api.OpTrail:
		return api.MayAudit, c.ownEvents
	case api.OpDrain:
		return api.MayRule, c.drain
	}
	return api.MayRule, c.quota // a request that may be has no other operation
}

// What the member 0 asks for: members, the policy, tokens. What it asks of the trail stands below.

func (c call) enrolWhom() api.Answer {
	r := c.request
	return ended(c.enrol(api.Member{User: r.Whom, Role: r.Role, Tier: r.Tier, Quota: r.Quota}, token.New()))
}

func (c call) dismissWhom() api.Answer {
	return ended(c.dismiss(c.request.Whom))
}

func (c call) quota() api.Answer {
	return ended(c.members.Quota(c.request.Whom, c.request.Quota))
}

func (c call) policy() api.Answer {
	if !c.rule(c.request.Text) {
		return answer(api.StPolicy)
	}
	return answer(api.StOK)
}

func (c call) mint() api.Answer {
	table, ok := c.tables[c.request.Whom]
	if !ok {
		return answer(api.StNone)
	}
	g := whole()
	g.Ops, g.Until = c.request.Rights, c.request.Until
	return ended(table.Mint(c.draw, g, c.now), secret(c.draw))
}

// What a member asks for of its own.

func (c call) attenuate() api.Answer {
	r := c.request
	g := api.Grant{Ops: r.Rights, Zoom: r.Zoom, Box: r.Box, Until: r.Until}
	return ended(c.own.Derive(r.Secret, c.draw, g, c.now), secret(c.draw))
}

func (c call) revoke() api.Answer {
	return ended(c.own.Revoke(c.request.Other, c.now))
}

func (c call) profile() api.Answer {
	return ended(c.members.Profile(c.member.User, c.request.Profile))
}

func (c call) report() api.Answer {
	return ended(c.stand(api.Record{ID: c.member.User, At: c.request.At, Label: c.request.Label}))
}

func (c call) removeOwn() api.Answer {
	return ended(c.remove(c.member.User))
}

func (c call) where() api.Answer {
	r, ok := c.records.Find(c.member.User)
	if !ok {
		return answer(api.StNone)
	}
	return answer(api.StOK, record(r))
}

func (c call) publish() api.Answer {
	r, ok := c.records.Find(c.member.User)
	switch {
	case !c.Cloaks(c.member.Role):
		return answer(api.StDenied)
	case !ok:
		return answer(api.StNone)
	case !cloak.Right(c.member.Profile):
		return answer(api.StArg)
	}
	k, err := cloak.Find(c.counts, r.At, c.member.Profile)
	if err != api.OK {
		// An elder cloak would tell where the member hid among others that are no longer there.
		c.shapes.Take(r.ID)
		return answer(api.StUnavailable)
	}
	c.shapes.Put(api.Shape{ID: r.ID, Box: k.Box, Label: r.Label})
	return answer(api.StOK, box(k.Box))
}

func (c call) withdraw() api.Answer {
	return ended(c.shapes.Take(c.member.User))
}

// What a member asks to see.

func (c call) window() api.Answer {
	return ofSight(plan.Window(c.world(), c.viewer(), c.request.Box, c.request.M))
}

func (c call) near() api.Answer {
	return ofSight(plan.Near(c.world(), c.viewer(), c.request.At, c.request.M))
}

func (c call) cloaks() api.Answer {
	return ofSight(plan.Cloaks(c.world(), c.viewer(), c.request.Box, c.request.M))
}

func (c call) nearCloaks() api.Answer {
	return ofSight(plan.NearCloaks(c.world(), c.viewer(), c.request.At, c.request.M))
}

// ofSight is the answer to what asks to see.
func ofSight(l []api.Seen, err api.Errno) api.Answer {
	return ended(err, seen(l))
}

// viewer is the member, who sees no more than the ticket grants.
func (c call) viewer() plan.Viewer {
	return plan.Viewer{Role: c.member.Role, Tier: c.member.Tier, Grant: c.grant}
}

// What is asked of the trail.

func (c call) ownEvents() api.Answer {
	return answer(api.StOK, events(c.trail.Own(c.member.User, c.request.From, c.request.M)))
}

func (c call) drain() api.Answer {
	return answer(api.StOK, events(c.trail.Drain(c.request.M)))
}
