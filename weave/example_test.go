package weave_test

import (
	"fmt"

	"weave/weave"
)

func ExampleCheck() {
	fmt.Println(weave.Check("=a1;wxa|rax;wya"))
	fmt.Println(weave.Check("=a1;wxa|rax;"))
	fmt.Println(weave.Check("=a1;wxa|j9"))
	// Output:
	// 0 0
	// 2 12
	// 3 9
}

func ExamplePlay() {
	fmt.Println(weave.Play("=a1;wxa|rax;wya", 8, "0011"))
	fmt.Println(weave.Play("=a1;wxa|rax;wya", 8, "0110"))
	fmt.Println(weave.Play("=a1;wxa|rax;wya", 1, "01"))
	// Output:
	// EE:110 0 0
	// EE:100 0 0
	// O1O1:000 0 0
}

func ExampleEnds() {
	fmt.Println(weave.Ends("=a1;wxa|rax;wya", 8))
	fmt.Println(weave.Ends("lm;ln;um;un|ln;lm;un;um", 8))
	fmt.Println(weave.Ends("lm;", 8))
	// Output:
	// [EE:100 EE:110] 0 0
	// [B1B1:000 EE:000] 0 0
	// [] 2 3
}

func ExampleShow() {
	fmt.Println(weave.Show("=a1;wxa|rax;wya", 8, "EE:110"))
	fmt.Println(weave.Show("=a1;wxa|rax;wya", 8, "EE:000"))
	// Output:
	// 0011 0 0
	//  8 0
}

func ExampleClasses() {
	fmt.Println(weave.Classes("=a1;wxa|rax;wya", 8))
	fmt.Println(weave.Classes("=a1;wxa|ray;wya", 8))
	fmt.Println(weave.Classes("wxa;wxa;wxa;wxa;wxa;wxa|wxa;wxa;wxa;wxa;wxa;wxa", 8))
	// Output:
	// 2 0 0
	// 1 0 0
	// 0 5 0
}
