package script_test

import (
	"fmt"

	"busbar/plan"
	"busbar/plane"
	"busbar/script"
)

// The example of README.md: two modules, of which the first one sends two words to the second one.
func ExamplePlay() {
	s := plane.Setup{
		Schedule: plan.Schedule{Modules: 2, Frames: [2][]plan.Window{
			{{Kind: plan.Data, Words: 2, Addr: 5, From: []int{0}, To: []int{1}}},
		}},
		On: 0b11,
	}
	p, code := plane.New(s)
	if code != 0 {
		fmt.Println(code)
		return
	}
	fmt.Print(script.Play(p, "0 write 0 5 0aff\n", 1000))
	fmt.Print(p.Pair(1).Memory().Text())
	// Output:
	// 230 0 sent 1 0 0 0aff
	// 719 1 took 1 0 0 0aff
	// -- -- -- -- -- 0a ff -- -- -- -- -- -- -- -- --
	// -- -- -- -- -- -- -- -- -- -- -- -- -- -- -- --
	// -- -- -- -- -- -- -- -- -- -- -- -- -- -- -- --
	// -- -- -- -- -- -- -- -- -- -- -- -- -- -- -- --
}
