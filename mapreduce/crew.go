package mapreduce

import "sync"

// crew is a job's workers, a goroutine each.
type crew struct {
	orders  []chan Event // a worker's own
	answers chan answer
	end     chan struct{} // closed when nothing more is ordered
	gone    sync.WaitGroup
}

func hire(workers int, shop *workshop) *crew {
	c := &crew{answers: make(chan answer), end: make(chan struct{})}
	for range workers {
		orders := make(chan Event)
		c.orders = append(c.orders, orders)
		c.gone.Add(1)
		go c.serve(&worker{shop: shop}, orders)
	}
	return c
}

// serve lets a worker wait for orders till the end. Never are both at hand: whoever gives an order waits for the answer.
func (c *crew) serve(w *worker, orders <-chan Event) {
	defer c.gone.Done()
	for {
		select {
		case order := <-orders:
			c.answers <- w.obey(order)
		case <-c.end:
			return
		}
	}
}

func (c *crew) has(worker int) bool { return within(worker, 0, len(c.orders)-1) }

func (c *crew) order(worker int, order Event) answer {
	c.orders[worker] <- order
	return <-c.answers
}

// dismiss ends all workers' goroutines.
func (c *crew) dismiss() {
	close(c.end)
	c.gone.Wait()
}
