package servicer

import (
	"errors"

	"arrears/api"
	"arrears/wire"
)

// serve does an operation, up to its end or to where it is refused or the disk goes down.
func (s *Servicer) serve(o api.Op) ([]int64, error) {
	table := [...]func(o api.Op) ([]int64, error){
		api.OpOpen:        s.change,
		api.OpPay:         s.change,
		api.OpReturn:      s.change,
		api.OpRefund:      s.change,
		api.OpWaive:       s.change,
		api.OpPromise:     s.change,
		api.OpRestructure: s.change,
		api.OpDay:         s.change,
		api.OpTick:        s.tick,
		api.OpFate:        s.fate,
		api.OpCalm:        s.calm,
		api.OpCrash:       s.arm,
		api.OpCompact:     s.compact,
		api.OpRestart:     s.restart,
		api.OpLoan:        s.ask,
		api.OpPlan:        s.ask,
		api.OpBooks:       s.ask,
		api.OpAging:       s.ask,
		api.OpNotices:     s.askNotices,
		api.OpTimers:      s.ask,
		api.OpToday:       s.ask,
	}
	// Number 0 is no kind, and nothing lies there.
	if o.Kind < api.OpOpen || o.Kind >= len(table) {
		return nil, met("serving", api.ErrKind)
	}
	return table[o.Kind](o)
}

// change does an operation on the portfolio. It is written down ahead of being done, and only what will be done is written down.
func (s *Servicer) change(o api.Op) ([]int64, error) {
	if why := s.engine.Check(o); why != api.OK {
		return nil, met("checking", why)
	}
	if err := s.writeDown(api.Record{Kind: api.RecordOp, Op: o}); err != nil {
		return nil, err
	}
	done := s.engine.Apply(o)
	s.layIn(s.net.Now())
	if err := s.compactIfDue(); err != nil {
		return nil, err
	}
	return done.Nums, met("applying", done.Err)
}

// writeDown makes a record durable.
func (s *Servicer) writeDown(r api.Record) error {
	return met("appending to the journal", s.journal.Append(wire.EncodeRecord(r)))
}

// compact begins the journal's next epoch with the portfolio as it stands.
func (s *Servicer) compact(api.Op) ([]int64, error) {
	if err := met("compacting the journal", s.journal.Compact(snapshot(s.engine))); err != nil {
		return nil, err
	}
	return []int64{int64(s.journal.Epoch())}, nil
}

// compactIfDue compacts the journal once it has as many records as the policy lets it have. If the journal refuses that, it goes on as it was: what was done is done, and only the disk's going down is an error.
func (s *Servicer) compactIfDue() error {
	every := s.policy.SnapEvery
	if every == 0 || s.journal.Count() < every {
		return nil
	}
	if _, err := s.compact(api.Op{}); errors.Is(err, errDown) {
		return err
	}
	return nil
}

// restart loses the memory, and makes it anew.
func (s *Servicer) restart(api.Op) ([]int64, error) {
	f, err := s.remember()
	if err != nil {
		return nil, err
	}
	return []int64{f.epoch, f.records, f.cut}, nil
}

// fate lays down what happens to the next messages.
func (s *Servicer) fate(o api.Op) ([]int64, error) {
	return nil, met("laying fates down", s.net.Fate(o.Text))
}

// calm lets neither fates nor crashes wait any more.
func (s *Servicer) calm(api.Op) ([]int64, error) {
	s.net.Calm()
	s.disk.Disarm()
	return nil, nil
}

// arm lets a crash of the disk wait.
func (s *Servicer) arm(o api.Op) ([]int64, error) {
	return nil, met("arming a crash", s.disk.Arm(o.Count, o.Days))
}

// ask answers a query on the portfolio.
func (s *Servicer) ask(o api.Op) ([]int64, error) {
	answer := s.engine.Ask(o)
	return answer.Nums, met("asking", answer.Err)
}

// askNotices tells how many notices are owed, how many of them are acknowledged, and how many the receiver has accepted.
func (s *Servicer) askNotices(o api.Op) ([]int64, error) {
	nums, err := s.ask(o)
	if err != nil {
		return nil, err
	}
	return append(nums, int64(len(s.net.Accepted()))), nil
}
