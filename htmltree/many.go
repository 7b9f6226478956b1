package htmltree

import "sync"

// Many reads each text by a parser of its own (P31).
func Many(texts []string, depth int, forms int, attrs int) ([]string, []error) {
	if len(texts) == 0 {
		return nil, nil
	}
	trees, errs := make([]string, len(texts)), make([]error, len(texts))
	var readers sync.WaitGroup
	for i, text := range texts {
		readers.Add(1)
		go func() {
			defer readers.Done()
			trees[i], errs[i] = treeOf(text, depth, forms, attrs)
		}()
	}
	readers.Wait()
	return trees, errs
}

// treeOf tells the tree of one text, or the first error on the way to it.
func treeOf(text string, depth, forms, attrs int) (string, error) {
	p, err := New(depth, forms, attrs)
	if err != nil {
		return "", err
	}
	if _, err := p.Write([]byte(text)); err != nil {
		return "", err
	}
	if err := p.Close(); err != nil {
		return "", err
	}
	return p.Text(), nil
}
