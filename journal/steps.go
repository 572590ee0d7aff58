package journal

// inTurn takes steps one behind the other, up to the first that fails; what that one said.
func inTurn(steps ...func() error) error {
	for _, step := range steps {
		if err := step(); err != nil {
			return err
		}
	}
	return nil
}
