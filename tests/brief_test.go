package tests

import (
	"fmt"

	"loop.example/g00542/impl"
)

// brief keeps a failure readable where a text is long.
func brief(text string) string {
	if len(text) <= 40 {
		return fmt.Sprintf("%q", text)
	}
	return fmt.Sprintf("%q.. (%d bytes)", text[:40], len(text))
}

func briefOut(out impl.TextOut) string {
	return fmt.Sprintf("{Text:%s At:%d Code:%d}", brief(out.Text), out.At, out.Code)
}
