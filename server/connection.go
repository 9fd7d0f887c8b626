package server

import (
	"ingot/api"
	"ingot/request"
)

// connection is a reader of requests, what it told and no worker took, and what goes out.
type connection struct {
	*request.Reader
	waits []event
	out   []byte
}

// event is what a reader told, with its number among all events of the server.
type event struct {
	api.Event
	number int
}

func newConnection() connection { return connection{Reader: request.New()} }

func (c connection) hasEvent() bool { return len(c.waits) > 0 }

// takeFirst takes the first event that waits. Its place is cleared, as the list keeps it until it grows.
func (c *connection) takeFirst() api.Event {
	first := c.waits[0].Event
	c.waits[0] = event{}
	c.waits = c.waits[1:]
	if len(c.waits) == 0 {
		c.waits = nil
	}
	return first
}
