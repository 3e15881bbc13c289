package servicer

import (
	"errors"

	"arrears/api"
	"arrears/engine"
	"arrears/journal"
	"arrears/outbox"
	"arrears/wire"
)

// memory is what a crash loses.
type memory struct {
	engine  *engine.Engine
	journal *journal.Journal
	box     *outbox.Box
	known   int // how many of the engine's notices the box was told of
}

// found is what recovering tells of itself.
type found struct {
	epoch, records, cut int64
}

// layIn lays into the box every notice that it was not told of yet and that is still owed. IDs count the notices from 1 on, so those are the ones above what is known.
func (m *memory) layIn(now int) {
	all := m.countNotices()
	if all == m.known {
		return
	}
	for _, n := range m.engine.Unacknowledged() {
		if n.ID > m.known {
			m.box.Add(n.ID, wire.EncodeNotice(n), now)
		}
	}
	m.known = all
}

// countNotices is how many notices there are, acknowledged or not.
func (m *memory) countNotices() int {
	nums := m.engine.Ask(api.Op{Kind: api.OpNotices}).Nums
	return int(nums[0])
}

// remember makes the memory anew from the outer world. Where it cannot, the old memory stays as it is.
func (s *Servicer) remember() (found, error) {
	j, r, err := s.openJournal()
	if err != nil {
		return found{}, err
	}
	e, err := s.portfolio(r)
	if err != nil {
		return found{}, err
	}
	s.memory = memory{engine: e, journal: j, box: outbox.New(s.policy)}
	s.layIn(s.net.Now())
	return found{int64(r.Epoch), int64(len(r.Records)), int64(r.Cut)}, nil
}

// openJournal opens the journal on the disk; on a disk without one it begins one.
func (s *Servicer) openJournal() (*journal.Journal, api.Recovered, error) {
	j, r, why := journal.Open(s.disk)
	if why == api.ErrBlank {
		if err := s.format(); err != nil {
			return nil, api.Recovered{}, err
		}
		j, r, why = journal.Open(s.disk)
	}
	return j, r, met("opening the journal", why)
}

// format begins a journal of an empty portfolio.
func (s *Servicer) format() error {
	e, why := engine.New(s.policy)
	if why != api.OK {
		return met("making an empty portfolio", why)
	}
	return met("formatting the disk", journal.Format(s.disk, snapshot(e)))
}

// snapshot is a portfolio as the journal keeps it.
func snapshot(e *engine.Engine) []byte { return wire.EncodeState(e.Save()) }

// portfolio is what a journal's snapshot and records come to.
func (s *Servicer) portfolio(r api.Recovered) (*engine.Engine, error) {
	state, ok := wire.DecodeState(r.Snapshot)
	if !ok {
		return nil, met("reading the snapshot", api.ErrDamaged)
	}
	records, err := readRecords(r.Records)
	if err != nil {
		return nil, err
	}
	e, why := engine.Load(s.policy, state)
	if why != api.OK {
		return nil, met("loading the snapshot", why)
	}
	for _, record := range records {
		play(e, record)
	}
	return e, nil
}

// readRecords reads the records of a journal.
func readRecords(list [][]byte) ([]api.Record, error) {
	var records []api.Record
	for _, told := range list {
		record, ok := wire.DecodeRecord(told)
		if !ok {
			return nil, met("reading a record", api.ErrDamaged)
		}
		records = append(records, record)
	}
	return records, nil
}

// play does again what a record says was done. An operation that is refused was never one that this package wrote, and does nothing.
func play(e *engine.Engine, record api.Record) {
	if record.Kind == api.RecordOp {
		e.Apply(record.Op)
	}
	for _, id := range record.Acked {
		e.Acknowledge(id)
	}
}

// comeBack restarts the disk that went down under an operation and recovers, until that holds. It ends: each time the disk goes down, a crash fewer waits.
func (s *Servicer) comeBack() api.Reply {
	var f found
	err, downs := errDown, int64(0)
	for errors.Is(err, errDown) {
		s.disk.Restart()
		downs++
		f, err = s.remember()
	}
	if err != nil {
		return reply(nil, err)
	}
	return api.Reply{Err: api.ErrCrashed, Nums: []int64{downs, f.records, f.epoch}}
}
