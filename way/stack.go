package way

// stack is things of which the last one comes off first.
type stack[T any] struct {
	items []T
}

// push lays one on.
func (s *stack[T]) push(x T) {
	s.items = append(s.items, x)
}

// pop takes the last one off.
func (s *stack[T]) pop() {
	s.items = s.items[:len(s.items)-1]
}

// top is the last one, where it lies; it holds till the next push.
func (s *stack[T]) top() *T {
	return &s.items[len(s.items)-1]
}

// size is how many there are.
func (s *stack[T]) size() int {
	return len(s.items)
}
