package desk

import (
	"almoner/api"
	"almoner/crc"
	"almoner/order"
	"almoner/wire"
)

// PutAsk is a question's frame; ErrState, if it isn't in form.
func PutAsk(a api.Ask) ([]byte, error) {
	w := wire.NewWriter()
	putNums(w, a.Kind, a.Client, a.Number)
	switch a.Kind {
	case api.AskOrder:
		b, err := order.Put(entryOf(a))
		if err != nil {
			return nil, err
		}
		w.Bytes(b)
	case api.AskTree:
		if !asksTree(a) {
			return nil, api.ErrState
		}
	default:
		return nil, api.ErrState
	}
	return frame(w)
}

// entryOf is the entry that an order's question asks for.
func entryOf(a api.Ask) api.Entry {
	return api.Entry{Client: a.Client, Number: a.Number, Order: a.Order}
}

// asksTree tells whether a question of AskTree is in form.
func asksTree(a api.Ask) bool {
	if a.Client < 0 || a.Client >= api.MaxClients || a.Number < 1 || a.Number > api.MaxTime {
		return false
	}
	o := a.Order
	return o.Kind == 0 && o.Id == 0 && o.Server == api.Server{} && o.Policy == 0 && len(o.Tasks) == 0 && o.At == 0
}

// GetAsk is the question of a frame; ErrBytes, if the bytes aren't one whole frame of a question in form.
func GetAsk(b []byte) (api.Ask, error) {
	r, err := open(b)
	if err != nil {
		return api.Ask{}, err
	}
	a, err := getAsk(r)
	if err != nil || r.End() != nil {
		return api.Ask{}, api.ErrBytes
	}
	return a, nil
}

func getAsk(r *wire.Reader) (api.Ask, error) {
	var a api.Ask
	if err := getNums(r, &a.Kind, &a.Client, &a.Number); err != nil {
		return api.Ask{}, err
	}
	switch a.Kind {
	case api.AskOrder:
		return getOrder(r, a)
	case api.AskTree:
		if asksTree(a) {
			return a, nil
		}
	}
	return api.Ask{}, api.ErrBytes
}

// getOrder is the question with the order of the entry that is read, which must be this Client's and have this Number.
func getOrder(r *wire.Reader, a api.Ask) (api.Ask, error) {
	b, err := r.Bytes(r.Left())
	if err != nil {
		return api.Ask{}, err
	}
	e, err := order.Get(b)
	if err != nil {
		return api.Ask{}, err
	}
	if e.Client != a.Client || e.Number != a.Number {
		return api.Ask{}, api.ErrBytes
	}
	a.Order = e.Order
	return a, nil
}

// PutReply is an answer's frame; ErrState, if it isn't in form.
func PutReply(r api.Reply) ([]byte, error) {
	nums := []int{r.Client, r.Number, r.Code, r.Id}
	for _, n := range nums {
		if n < 0 || n > api.MaxTime {
			return nil, api.ErrState
		}
	}
	if len(r.Tree) > MaxTree {
		return nil, api.ErrState
	}
	w := wire.NewWriter()
	putNums(w, nums...)
	w.Bytes(r.Tree)
	return frame(w)
}

// GetReply is the answer of a frame; ErrBytes, if the bytes aren't one whole frame of an answer in form.
func GetReply(b []byte) (api.Reply, error) {
	r, err := open(b)
	if err != nil {
		return api.Reply{}, err
	}
	reply, err := getReply(r)
	if err != nil || r.End() != nil {
		return api.Reply{}, api.ErrBytes
	}
	return reply, nil
}

func getReply(r *wire.Reader) (api.Reply, error) {
	var reply api.Reply
	if err := getNums(r, &reply.Client, &reply.Number, &reply.Code, &reply.Id); err != nil {
		return api.Reply{}, err
	}
	b, err := r.Bytes(MaxTree)
	reply.Tree = b
	return reply, err
}

func putNums(w *wire.Writer, nums ...int) {
	for _, n := range nums {
		w.Num(n)
	}
}

// getNums reads numbers, one behind the other, into these places.
func getNums(r *wire.Reader, places ...*int) error {
	for _, to := range places {
		n, err := r.Num(api.MaxTime)
		if err != nil {
			return err
		}
		*to = n
	}
	return nil
}

// frame is the frame of all that was put.
func frame(w *wire.Writer) ([]byte, error) {
	b, err := w.Done()
	if err != nil {
		return nil, err
	}
	return crc.Frame(b)
}

// open is a reader of the payload; ErrBytes, if the bytes aren't one whole frame and nothing more.
func open(b []byte) (*wire.Reader, error) {
	payload, size, err := crc.Read(b)
	if err != nil || size != len(b) {
		return nil, api.ErrBytes
	}
	return wire.NewReader(payload), nil
}
