package servicer

import "arrears/api"

// tick lets some ticks of the network go by, one after the other.
func (s *Servicer) tick(o api.Op) ([]int64, error) {
	if o.Days < 1 || o.Days > api.MaxTicks {
		return nil, met("counting the ticks", api.ErrArg)
	}
	sent, acknowledged := 0, 0
	for range o.Days {
		acks, err := s.receive()
		if err != nil {
			return nil, err
		}
		acknowledged += acks
		sent += s.send()
	}
	if err := s.compactIfDue(); err != nil {
		return nil, err
	}
	return []int64{int64(sent), int64(acknowledged), int64(s.net.Now())}, nil
}

// receive brings the network one tick on, and takes the acknowledgements that come in with it. They are written down first: what counts as acknowledged must do so behind a crash too.
func (s *Servicer) receive() (int, error) {
	ids := s.news(s.net.Tick())
	if len(ids) == 0 {
		return 0, nil
	}
	if err := s.writeDown(api.Record{Kind: api.RecordAcks, Acked: ids}); err != nil {
		return 0, err
	}
	for _, id := range ids {
		s.engine.Acknowledge(id)
		s.box.Ack(id)
	}
	return len(ids), nil
}

// news are those of the IDs, each once, whose notices are owed and not acknowledged.
func (s *Servicer) news(ids []int) []int {
	if len(ids) == 0 {
		return nil
	}
	open := map[int]struct{}{}
	for _, n := range s.engine.Unacknowledged() {
		open[n.ID] = struct{}{}
	}
	var news []int
	for _, id := range ids {
		if _, there := open[id]; there {
			news = append(news, id)
			delete(open, id)
		}
	}
	return news
}

// send hands what is due over to the network.
func (s *Servicer) send() int {
	packets := s.box.Due(s.net.Now())
	for _, p := range packets {
		s.net.Send(p)
	}
	return len(packets)
}
