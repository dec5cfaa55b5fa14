package station_test

import (
	"os"
	"runtime/debug"
	"testing"
)

// Nearly all that these tests make is thrown away at once: with fewer collections they take half the time.
func TestMain(m *testing.M) {
	debug.SetGCPercent(400)
	os.Exit(m.Run())
}
