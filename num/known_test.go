package num_test

import (
	"testing"

	"barograph/api"
	"barograph/num"
)

// These bits were worked out apart from this program, by another one that has the chapter's formulas: they hold whatever machine runs the tests. Some of the numbers, near the bounds of Ln's and Atan's series, tell the first term of all from its neighbours.

func TestBitsOfFunctions(t *testing.T) {
	for _, x := range []struct {
		name string
		call unary
		rows [][2]api.Num
	}{
		{"Exp", num.Exp, [][2]api.Num{
			{0x3fe0000000000000, 0x3ffa61298e1e069c},
			{0xbfe0000000000000, 0x3fe368b2fc6f960a},
			{0x3ff0000000000000, 0x4005bf0a8b14576a},
			{0xbff0000000000000, 0x3fd78b56362cef38},
			{0x4081ab7a74b40702, 0x72eae87cf8eda848},
			{0x407ced2a272c8674, 0x69aa363a01ea3de8},
			{0xc06ece5e73770dd2, 0x29b5d839f8b476f4},
			{0xc0853716e549c25d, 0x02b7d2a7c6ac7e26},
			{0xbffed7998632fe12, 0x3fc29f7857413384},
			{0xbfde632cf5e29960, 0x3fe3e77c2defe367},
		}},
		{"Ln", num.Ln, [][2]api.Num{
			{0x3fe0000000000000, 0xbfe62e42fefa39ef},
			{0x4000000000000000, 0x3fe62e42fefa39ef},
			{0x4024000000000000, 0x40026bb1bbb55516},
			{0x378fa8c86da0581c, 0xc057391d817ca8f9},
			{0x1d3674416ca9225e, 0xc07810d0ada505a4},
			{0x01d5aba4b77e168a, 0xc085857abf45a114},
			{0x46dd570cffdb6c54, 0x40533690401bc8af},
			{0x01eb658a57aed520, 0xc0857e0efd088667},
			{0x0000000000000003, 0xc0873abb4f301b42},
			{0x000fffffffffffff, 0xc086232bdd7abcd2},
			{0x3ff69fc847b3e846, 0x3fd62be55421db99},
			{0x3ff69fc51a7d02a2, 0x3fd62bdc57ae0a19},
			{0x3fe6a14032f79a9d, 0xbfd62c7962963d38},
			{0x3fe6a175aa80e1fa, 0xbfd62be22d4f37e1},
		}},
		{"Log2", num.Log2, [][2]api.Num{
			{0x4008000000000000, 0x3ff95c01a39fbd69},
			{0x4024000000000000, 0x400a934f0979a372},
			{0x3fb999999999999a, 0xc00a934f0979a371},
			{0x2ecaa81a64680708, 0xc07124379bc110d1},
			{0x4a57ca4da862ca47, 0x4064d25044adb3aa},
			{0x43be3bcc23ae9cb5, 0x404e7583a5fe1d10},
		}},
		{"Log10", num.Log10, [][2]api.Num{
			{0x4008000000000000, 0x3fde8927964fd5fd},
			{0x4024000000000000, 0x3ff0000000000000},
			{0x408f400000000000, 0x4007ffffffffffff},
			{0x3fb999999999999a, 0xbfeffffffffffffe},
			{0x13baad5a063e75ac, 0xc06a9d07ecca0295},
			{0x1eeb74b8a954adb0, 0xc063e054cc4f681a},
			{0x37db69ad8fcfdcd8, 0xc04373355c6ae7f8},
		}},
		{"Sin", num.Sin, [][2]api.Num{
			{0x3fe0000000000000, 0x3fdeaee8744b05f0},
			{0x3ff0000000000000, 0x3feaed548f090cee},
			{0x4000000000000000, 0x3fed18f6ead1b446},
			{0x4008000000000000, 0x3fc210386db6d55b},
			{0xbff0000000000000, 0xbfeaed548f090cee},
			{0xc010000000000000, 0x3fe837b9dddc1eae},
			{0xc081bd651af97a30, 0xbfea1a0b74ba615b},
			{0x40865a70553610f4, 0xbfea8b8d8b06b10f},
			{0xc051901fc4b7a0c8, 0xbfed08e31688796c},
			{0x408dee882de80a7a, 0x3fd7197c8bd08d21},
			{0x412d4120c9704d99, 0x3fefdeef387b574f},
			{0x410f45eec933414f, 0xbfe5ccd2b0173b64},
			{0x7e37e43c8800759c, 0xbfe52ec076f4df9c},
		}},
		{"Cos", num.Cos, [][2]api.Num{
			{0x3fe0000000000000, 0x3fec1528065b7d50},
			{0x3ff0000000000000, 0x3fe14a280fb5068c},
			{0x4000000000000000, 0xbfdaa22657537205},
			{0x4008000000000000, 0xbfefae04be85e5d2},
			{0xbff0000000000000, 0x3fe14a280fb5068c},
			{0xc010000000000000, 0xbfe4eaa606db24c1},
			{0x406e644b4489dd68, 0xbfd54c2752127f7e},
			{0x408528cf23232f9c, 0x3fb67aca952a8968},
			{0x4086a6072d6fa28a, 0xbfe27fcb218105bb},
			{0x40812174044ef8f2, 0x3f9ae58600a47b68},
			{0x4115e15e78a6abf7, 0x3fec61ccd97939df},
			{0x40ef47ab3dd86f01, 0xbfdafcc9d84572d3},
			{0x7e37e43c8800759c, 0x3fe7fc3f18dde1da},
		}},
		{"Tan", num.Tan, [][2]api.Num{
			{0x3fe0000000000000, 0x3fe17b4f5bf3474a},
			{0x3ff0000000000000, 0x3ff8eb245cbee3a5},
			{0x4000000000000000, 0xc0017af62e0950f8},
			{0x4008000000000000, 0xbfc23ef71254b86f},
			{0xbff0000000000000, 0xbff8eb245cbee3a5},
			{0xc010000000000000, 0xbff2866f9be4de13},
			{0x4088bc71dfdf89f8, 0xbfc02e4c4cff5488},
			{0xc073b7beae4de52a, 0xc00fdc48b953311f},
			{0x4087dd28343f016a, 0x3fcf0021705e4545},
			{0x40683c2585462288, 0xbff420c263f64d0f},
		}},
		{"Asin", num.Asin, [][2]api.Num{
			{0x3fe0000000000000, 0x3fe0c152382d7366},
			{0xbfd0000000000000, 0xbfd02be9ce0b87cd},
			{0x3fefae147ae147ae, 0x3ff6de3c6f33d51d},
			{0x3fd273777aa04238, 0x3fd2b7797d5561f6},
			{0xbfe6075fc4d027ce, 0xbfe84c07ceb2f8ce},
			{0x3fdf9783c45077c0, 0x3fe0851fabca3ffb},
		}},
		{"Acos", num.Acos, [][2]api.Num{
			{0x3fe0000000000000, 0x3ff0c152382d7365},
			{0xbfd0000000000000, 0x3ffd2cf5c7c70f0b},
			{0x3fefae147ae147ae, 0x3fc21df72882bfd8},
			{0xbff0000000000000, 0x400921fb54442d18},
			{0x3fd6fd591b37c27c, 0x3ff34102b095043a},
			{0xbfd4e176f33b77cc, 0x3ffe73450ed765c5},
			{0x3fd0353b1c4ff3c8, 0x3ff50940d74b1d2d},
		}},
		{"Atan", num.Atan, [][2]api.Num{
			{0x3fd0000000000000, 0x3fcf5b75f92c80dd},
			{0x3fe0000000000000, 0x3fddac670561bb4f},
			{0x3ff0000000000000, 0x3fe921fb54442d18},
			{0xc000000000000000, 0xbff1b6e192ebbe44},
			{0x4059000000000000, 0x3ff8f905eb2def21},
			{0x3feedfe4f8e2e8ee, 0x3fe88f5dbdaac3fc},
			{0x3fde31cfc32494f4, 0x3fdc367f2bd979c8},
			{0x3fe39b5f4c8338fc, 0x3fe19748c667fe4a},
			{0xc011ebb251a16778, 0xbff59e79cef8112a},
			{0x40220915402b88ec, 0x3ff75d9d3c55f6d9},
			{0xbfe22f5f59b3d590, 0xbfe08964486df6fc},
			{0x3fda6a6566393b21, 0x3fd90d6b1ef59bbd},
			{0x3fda7dae78cd2cd5, 0x3fd91de3ccd7fd93},
			{0x3fda7f6406b589af, 0x3fd91f5956f21680},
			{0x3fda718f30c4c5f6, 0x3fd91389be4fb2aa},
		}},
		{"Sinh", num.Sinh, [][2]api.Num{
			{0x3f50624dd2f1a9fc, 0x3f50624e00c1ca00},
			{0x3ff0000000000000, 0x3ff2cd9fc44eb983},
			{0xc008000000000000, 0xc0240926e70949ae},
			{0x4083b84afc85256a, 0x78c50403aa0270bf},
			{0xc07ed219c8be53c5, 0xec55ad3cb652cf46},
			{0xc07e849c20d7c5bf, 0xebe5de9488ec04ab},
		}},
		{"Cosh", num.Cosh, [][2]api.Num{
			{0x3f50624dd2f1a9fc, 0x3ff000008637bdc2},
			{0x3ff0000000000000, 0x3ff8b07551d9f551},
			{0xc008000000000000, 0x402422a497d6185e},
			{0x40823a8db543194e, 0x747773ff3eee9cf6},
			{0x406313d5cce95578, 0x4da22cd97fd0305d},
			{0xc0655a6f5eac7238, 0x4f45db2559cfdd6f},
		}},
		{"Tanh", num.Tanh, [][2]api.Num{
			{0x3f50624dd2f1a9fc, 0x3f50624d77516d35},
			{0x3ff0000000000000, 0x3fe85efab514f394},
			{0xc008000000000000, 0xbfefd77d111a0b01},
			{0xc00e46f35476f1c0, 0xbfeff78c9aa686a2},
			{0xc034bc969ff887b3, 0xbff0000000000000},
			{0x402f9770348ada24, 0x3feffffffffffea9},
			{0xc01295f509f45e80, 0xbfeffe7dd626db1b},
		}},
		{"Asinh", num.Asinh, [][2]api.Num{
			{0x3f50624dd2f1a9fc, 0x3f50624da5218aa9},
			{0x3ff0000000000000, 0x3fec34366179d426},
			{0xc008000000000000, 0xbffd185b507edc0e},
			{0x54b249ad2594c37d, 0x406cde73f84a4f2c},
			{0x3ff289ad1de18600, 0x3fefa792077f4c1a},
			{0x40425b7afe5b0484, 0x40112fa034353aa3},
			{0xc02efaad82f05eb8, 0xc00b799000505dcd},
		}},
		{"Acosh", num.Acosh, [][2]api.Num{
			{0x3ff004189374bc6a, 0x3fa6e53acbcdeb1f},
			{0x3ff8000000000000, 0x3feecc2caec5160a},
			{0x4008000000000000, 0x3ffc34366179d426},
			{0x4048f98ff2120f28, 0x40126a8fa401d8a3},
			{0x403827823f1f4259, 0x400f04780e55529c},
			{0x40401d7c7d29e300, 0x4010a9cb7f79f21e},
		}},
		{"Atanh", num.Atanh, [][2]api.Num{
			{0x3f50624dd2f1a9fc, 0x3f50624e2e91ecb0},
			{0x3fe0000000000000, 0x3fe193ea7aad030b},
			{0xbfeccccccccccccd, 0xbff78e360604b32d},
			{0xbfcb7535b3bf23a8, 0xbfcbe41ba0720ff3},
			{0x3fde9e9bab271b70, 0x3fe0ab9949e6fdb3},
			{0x3fee5a6a8df65280, 0x3ffd1260d42fe5b6},
		}},
	} {
		for _, row := range x.rows {
			check(t, x.name, row[0], 0, x.call(row[0]), row[1])
		}
	}
}

func TestBitsOfFunctionsOfTwo(t *testing.T) {
	for _, x := range []struct {
		name string
		call binary
		rows [][3]api.Num
	}{
		{"Pow", num.Pow, [][3]api.Num{
			{0x4008000000000000, 0x4014000000000000, 0x406e600000000000},
			{0x4008000000000000, 0xc014000000000000, 0x3f70db20a88f4696},
			{0x3fb999999999999a, 0x401c000000000000, 0x3e7ad7f29abcaf4e},
			{0xbff8000000000000, 0x4022000000000000, 0xc04338c000000000},
			{0x4024000000000000, 0xc072c00000000000, 0x01a56e1fc2f8f355},
			{0x4000000000000000, 0x3fe0000000000000, 0x3ff6a09e667f3bcc},
			{0x4024000000000000, 0x3fd3333333333333, 0x3fffec982d5bb8b0},
			{0x3fe0000000000000, 0xc004000000000000, 0x4016a09e667f3bcc},
			{0x3fff706d45e9983b, 0x403e4f454860ec00, 0x41c734fae28f7bf6},
			{0x401209c1e6d8f0a3, 0xc0481ec788ed45b1, 0x39620ef1b9ea2eaa},
			{0x4015fd3f443528c5, 0x404643650e402316, 0x46c64b0b699b83cd},
			{0x3fe1f92d8b8dc70a, 0xc040ef7de8d821ea, 0x41b239c049834a31},
		}},
		{"Atan2", num.Atan2, [][3]api.Num{
			{0x3ff0000000000000, 0x3ff0000000000000, 0x3fe921fb54442d18},
			{0x3ff0000000000000, 0xbff0000000000000, 0x4002d97c7f3321d2},
			{0xbff0000000000000, 0xbff0000000000000, 0xc002d97c7f3321d2},
			{0xbff0000000000000, 0x3ff0000000000000, 0xbfe921fb54442d18},
			{0x4008000000000000, 0x3fe0000000000000, 0x3ff67d8863bc99bc},
			{0x3fc999999999999a, 0xc01c000000000000, 0x4008e77bbf0200d7},
			{0xc019c040277d21dc, 0x3fddbc54572ca980, 0xbff7fae154dff764},
			{0xc00aef3e1c31919c, 0x4013b63f5580884a, 0xbfe32dff759ac2c2},
			{0xbffe932a7be94860, 0x400fbd19885554f0, 0xbfdcba55cc4b380b},
			{0x400e21c59155abb0, 0xc0196d794c823ab5, 0x4004da87624b4d49},
		}},
		{"Mod", num.Mod, [][3]api.Num{
			{0x7e37e43c8800759c, 0x401c000000000000, 0x3ff0000000000000},
			{0xc3abc16d674ec800, 0x3fd3333333333333, 0xbfca8d33ce1eef20},
			{0x4016000000000000, 0xc000000000000000, 0x3ff8000000000000},
			{0x41b6d0508343fa48, 0xbff983c11af20eb8, 0x3fe28c9da759a770},
			{0x41a2aa7cc96d7f10, 0x401d0f5621607dc8, 0x3ff643829f09fde0},
			{0x41caf949d09f329e, 0x400934806f5213f0, 0x3fe40018ea774cc0},
		}},
		{"Nearest", num.Nearest, [][3]api.Num{
			{0x3fd3333333333333, 0x3fb999999999999a, 0x3fd3333333333333},
			{0xc0934a0000000000, 0x4024000000000000, 0xc093380000000000},
			{0x408cda20ccb3302e, 0x4020672df6f05b74, 0x408cf62d28006179},
			{0x4079d8189a34bd68, 0xc01c026119b01812, 0x4079d23183ae5630},
			{0xc086827a6c4cee8e, 0xbffc810a9d272318, 0xc0867dd26000e1b1},
		}},
	} {
		for _, row := range x.rows {
			check(t, x.name, row[0], row[1], x.call(row[0], row[1]), row[2])
		}
	}
}
