import Derived.Test.YtpioenfglmimgaaProg
import Derived.Test.YtpioenfglmimgaaS13
import Derived.KernelRfl
namespace Go.Proofs.Ytpioenfglmimgaa
open Go Go.Proofs
def str_0 : String := String.ofList [Char.ofNat 105, Char.ofNat 110, Char.ofNat 116, Char.ofNat 101, Char.ofNat 114, Char.ofNat 110, Char.ofNat 97, Char.ofNat 108, Char.ofNat 47, Char.ofNat 114, Char.ofNat 117, Char.ofNat 110, Char.ofNat 116, Char.ofNat 105, Char.ofNat 109, Char.ofNat 101, Char.ofNat 47, Char.ofNat 109, Char.ofNat 97, Char.ofNat 112, Char.ofNat 115]
def str_1 : String := String.ofList [Char.ofNat 112, Char.ofNat 97, Char.ofNat 116, Char.ofNat 101, Char.ofNat 114, Char.ofNat 110, Char.ofNat 111, Char.ofNat 115, Char.ofNat 116, Char.ofNat 101, Char.ofNat 114, Char.ofNat 47, Char.ofNat 114, Char.ofNat 111, Char.ofNat 112, Char.ofNat 101, Char.ofNat 115]
def str_2 : String := String.ofList [Char.ofNat 112, Char.ofNat 97, Char.ofNat 116, Char.ofNat 101, Char.ofNat 114, Char.ofNat 110, Char.ofNat 111, Char.ofNat 115, Char.ofNat 116, Char.ofNat 101, Char.ofNat 114, Char.ofNat 47, Char.ofNat 102, Char.ofNat 101, Char.ofNat 110, Char.ofNat 119, Char.ofNat 105, Char.ofNat 99, Char.ofNat 107, Char.ofNat 115]
def ti1 : Abs.TI := ⟨.func #[] #[] false, 1, 8, .nilFunc, false⟩
theorem tok1 : Abs.TyOk Try.prog 1 ti1 := Abs.TyOk.mk' (by kernel_rfl) (by kernel_rfl) (by kernel_rfl) (fun fs e => by cases e) (fun h => by cases h)
def ti2 : Abs.TI := ⟨.int .i64, 1, 8, .int .i64 0, false⟩
theorem tok2 : Abs.TyOk Try.prog 2 ti2 := Abs.TyOk.mk' (by kernel_rfl) (by kernel_rfl) (by kernel_rfl) (fun fs e => by cases e) (fun h => by cases h)
def ti3 : Abs.TI := ⟨.int .i64, 1, 8, .int .i64 0, false⟩
theorem tok3 : Abs.TyOk Try.prog 3 ti3 := Abs.TyOk.mk' (by kernel_rfl) (by kernel_rfl) (by kernel_rfl) (fun fs e => by cases e) (fun h => by cases h)
def ti4 : Abs.TI := ⟨.bool, 1, 1, .bool false, false⟩
theorem tok4 : Abs.TyOk Try.prog 4 ti4 := Abs.TyOk.mk' (by kernel_rfl) (by kernel_rfl) (by kernel_rfl) (fun fs e => by cases e) (fun h => by cases h)
def ti5 : Abs.TI := ⟨.int .u8, 1, 1, .int .u8 0, false⟩
theorem tok5 : Abs.TyOk Try.prog 5 ti5 := Abs.TyOk.mk' (by kernel_rfl) (by kernel_rfl) (by kernel_rfl) (fun fs e => by cases e) (fun h => by cases h)
def ti6 : Abs.TI := ⟨.int .u8, 1, 1, .int .u8 0, false⟩
theorem tok6 : Abs.TyOk Try.prog 6 ti6 := Abs.TyOk.mk' (by kernel_rfl) (by kernel_rfl) (by kernel_rfl) (fun fs e => by cases e) (fun h => by cases h)
def ti7 : Abs.TI := ⟨.struct #[⟨ "x", 2, 0, false, "", "runtime", 0⟩, ⟨ "y", 3, 1, false, "", "runtime", 8⟩, ⟨ "signed", 4, 2, false, "", "runtime", 16⟩, ⟨ "code", 6, 3, false, "", "runtime", 17⟩], 4, 24, .agg #[.int .i64 0, .int .i64 0, .bool false, .int .u8 0], true⟩
theorem tok7 : Abs.TyOk Try.prog 7 ti7 := Abs.TyOk.mk' (by kernel_rfl) (by kernel_rfl) (by kernel_rfl) (fun fs e => by cases e; exact ⟨[(0, 1), (1, 1), (2, 1), (3, 1)], by kernel_rfl⟩) (fun _ => ⟨by kernel_rfl, by kernel_rfl⟩)
def ti8 : Abs.TI := ⟨.struct #[⟨ "x", 2, 0, false, "", "runtime", 0⟩, ⟨ "y", 3, 1, false, "", "runtime", 8⟩, ⟨ "signed", 4, 2, false, "", "runtime", 16⟩, ⟨ "code", 6, 3, false, "", "runtime", 17⟩], 4, 24, .agg #[.int .i64 0, .int .i64 0, .bool false, .int .u8 0], false⟩
theorem tok8 : Abs.TyOk Try.prog 8 ti8 := Abs.TyOk.mk' (by kernel_rfl) (by kernel_rfl) (by kernel_rfl) (fun fs e => by cases e; exact ⟨[(0, 1), (1, 1), (2, 1), (3, 1)], by kernel_rfl⟩) (fun h => by cases h)
def ti9 : Abs.TI := ⟨.string, 1, 16, .string ⟨#[]⟩, false⟩
theorem tok9 : Abs.TyOk Try.prog 9 ti9 := Abs.TyOk.mk' (by kernel_rfl) (by kernel_rfl) (by kernel_rfl) (fun fs e => by cases e) (fun h => by cases h)
def ti10 : Abs.TI := ⟨.string, 1, 16, .string ⟨#[]⟩, false⟩
theorem tok10 : Abs.TyOk Try.prog 10 ti10 := Abs.TyOk.mk' (by kernel_rfl) (by kernel_rfl) (by kernel_rfl) (fun fs e => by cases e) (fun h => by cases h)
def ti11 : Abs.TI := ⟨.string, 1, 16, .string ⟨#[]⟩, false⟩
theorem tok11 : Abs.TyOk Try.prog 11 ti11 := Abs.TyOk.mk' (by kernel_rfl) (by kernel_rfl) (by kernel_rfl) (fun fs e => by cases e) (fun h => by cases h)
def ti12 : Abs.TI := ⟨.int .u64, 1, 8, .int .u64 0, false⟩
theorem tok12 : Abs.TyOk Try.prog 12 ti12 := Abs.TyOk.mk' (by kernel_rfl) (by kernel_rfl) (by kernel_rfl) (fun fs e => by cases e) (fun h => by cases h)
def ti13 : Abs.TI := ⟨.struct #[⟨ "msg", 9, 0, false, "", "runtime", 0⟩, ⟨ "addr", 12, 1, false, "", "runtime", 16⟩], 2, 24, .agg #[.string ⟨#[]⟩, .int .u64 0], false⟩
theorem tok13 : Abs.TyOk Try.prog 13 ti13 := Abs.TyOk.mk' (by kernel_rfl) (by kernel_rfl) (by kernel_rfl) (fun fs e => by cases e; exact ⟨[(0, 1), (1, 1)], by kernel_rfl⟩) (fun h => by cases h)
def ti14 : Abs.TI := ⟨.struct #[⟨ "msg", 9, 0, false, "", "runtime", 0⟩, ⟨ "addr", 12, 1, false, "", "runtime", 16⟩], 2, 24, .agg #[.string ⟨#[]⟩, .int .u64 0], false⟩
theorem tok14 : Abs.TyOk Try.prog 14 ti14 := Abs.TyOk.mk' (by kernel_rfl) (by kernel_rfl) (by kernel_rfl) (fun fs e => by cases e; exact ⟨[(0, 1), (1, 1)], by kernel_rfl⟩) (fun h => by cases h)
def ti15 : Abs.TI := ⟨.pointer 99, 1, 8, .pointer none, false⟩
theorem tok15 : Abs.TyOk Try.prog 15 ti15 := Abs.TyOk.mk' (by kernel_rfl) (by kernel_rfl) (by kernel_rfl) (fun fs e => by cases e) (fun h => by cases h)
def ti16 : Abs.TI := ⟨.pointer 102, 1, 8, .pointer none, false⟩
theorem tok16 : Abs.TyOk Try.prog 16 ti16 := Abs.TyOk.mk' (by kernel_rfl) (by kernel_rfl) (by kernel_rfl) (fun fs e => by cases e) (fun h => by cases h)
def ti17 : Abs.TI := ⟨.pointer 110, 1, 8, .pointer none, false⟩
theorem tok17 : Abs.TyOk Try.prog 17 ti17 := Abs.TyOk.mk' (by kernel_rfl) (by kernel_rfl) (by kernel_rfl) (fun fs e => by cases e) (fun h => by cases h)
def ti18 : Abs.TI := ⟨.struct #[⟨ "typ", 17, 0, false, "", str_0, 0⟩], 1, 8, .agg #[.pointer none], false⟩
theorem tok18 : Abs.TyOk Try.prog 18 ti18 := Abs.TyOk.mk' (by kernel_rfl) (by kernel_rfl) (by kernel_rfl) (fun fs e => by cases e; exact ⟨[(0, 1)], by kernel_rfl⟩) (fun h => by cases h)
def ti19 : Abs.TI := ⟨.struct #[⟨ "typ", 17, 0, false, "", str_0, 0⟩], 1, 8, .agg #[.pointer none], false⟩
theorem tok19 : Abs.TyOk Try.prog 19 ti19 := Abs.TyOk.mk' (by kernel_rfl) (by kernel_rfl) (by kernel_rfl) (fun fs e => by cases e; exact ⟨[(0, 1)], by kernel_rfl⟩) (fun h => by cases h)
def ti20 : Abs.TI := ⟨.interface #[], 1, 16, .nilIface, false⟩
theorem tok20 : Abs.TyOk Try.prog 20 ti20 := Abs.TyOk.mk' (by kernel_rfl) (by kernel_rfl) (by kernel_rfl) (fun fs e => by cases e) (fun h => by cases h)
def ti21 : Abs.TI := ⟨.int .i32, 1, 4, .int .i32 0, false⟩
theorem tok21 : Abs.TyOk Try.prog 21 ti21 := Abs.TyOk.mk' (by kernel_rfl) (by kernel_rfl) (by kernel_rfl) (fun fs e => by cases e) (fun h => by cases h)
def ti22 : Abs.TI := ⟨.slice 2, 1, 24, .slice none 0 0, false⟩
theorem tok22 : Abs.TyOk Try.prog 22 ti22 := Abs.TyOk.mk' (by kernel_rfl) (by kernel_rfl) (by kernel_rfl) (fun fs e => by cases e) (fun h => by cases h)
def ti23 : Abs.TI := ⟨.func #[] #[4] false, 1, 8, .nilFunc, false⟩
theorem tok23 : Abs.TyOk Try.prog 23 ti23 := Abs.TyOk.mk' (by kernel_rfl) (by kernel_rfl) (by kernel_rfl) (fun fs e => by cases e) (fun h => by cases h)
def ti24 : Abs.TI := ⟨.func #[22] #[3] false, 1, 8, .nilFunc, false⟩
theorem tok24 : Abs.TyOk Try.prog 24 ti24 := Abs.TyOk.mk' (by kernel_rfl) (by kernel_rfl) (by kernel_rfl) (fun fs e => by cases e) (fun h => by cases h)
def ti25 : Abs.TI := ⟨.pointer 75, 1, 8, .pointer none, false⟩
theorem tok25 : Abs.TyOk Try.prog 25 ti25 := Abs.TyOk.mk' (by kernel_rfl) (by kernel_rfl) (by kernel_rfl) (fun fs e => by cases e) (fun h => by cases h)
def ti26 : Abs.TI := ⟨.struct #[⟨ "root", 25, 0, false, "", str_1, 0⟩], 1, 8, .agg #[.pointer none], true⟩
theorem tok26 : Abs.TyOk Try.prog 26 ti26 := Abs.TyOk.mk' (by kernel_rfl) (by kernel_rfl) (by kernel_rfl) (fun fs e => by cases e; exact ⟨[(0, 1)], by kernel_rfl⟩) (fun _ => ⟨by kernel_rfl, by kernel_rfl⟩)
def ti27 : Abs.TI := ⟨.struct #[⟨ "root", 25, 0, false, "", str_1, 0⟩], 1, 8, .agg #[.pointer none], true⟩
theorem tok27 : Abs.TyOk Try.prog 27 ti27 := Abs.TyOk.mk' (by kernel_rfl) (by kernel_rfl) (by kernel_rfl) (fun fs e => by cases e; exact ⟨[(0, 1)], by kernel_rfl⟩) (fun _ => ⟨by kernel_rfl, by kernel_rfl⟩)
def ti28 : Abs.TI := ⟨.int .i64, 1, 8, .int .i64 0, false⟩
theorem tok28 : Abs.TyOk Try.prog 28 ti28 := Abs.TyOk.mk' (by kernel_rfl) (by kernel_rfl) (by kernel_rfl) (fun fs e => by cases e) (fun h => by cases h)
def ti30 : Abs.TI := ⟨.func #[22] #[27, 28] false, 1, 8, .nilFunc, false⟩
theorem tok30 : Abs.TyOk Try.prog 30 ti30 := Abs.TyOk.mk' (by kernel_rfl) (by kernel_rfl) (by kernel_rfl) (fun fs e => by cases e) (fun h => by cases h)
def ti31 : Abs.TI := ⟨.func #[27, 28, 22, 3] #[4] false, 1, 8, .nilFunc, false⟩
theorem tok31 : Abs.TyOk Try.prog 31 ti31 := Abs.TyOk.mk' (by kernel_rfl) (by kernel_rfl) (by kernel_rfl) (fun fs e => by cases e) (fun h => by cases h)
def ti32 : Abs.TI := ⟨.func #[22] #[4] false, 1, 8, .nilFunc, false⟩
theorem tok32 : Abs.TyOk Try.prog 32 ti32 := Abs.TyOk.mk' (by kernel_rfl) (by kernel_rfl) (by kernel_rfl) (fun fs e => by cases e) (fun h => by cases h)
def ti33 : Abs.TI := ⟨.slice 5, 1, 24, .slice none 0 0, false⟩
theorem tok33 : Abs.TyOk Try.prog 33 ti33 := Abs.TyOk.mk' (by kernel_rfl) (by kernel_rfl) (by kernel_rfl) (fun fs e => by cases e) (fun h => by cases h)
def ti34 : Abs.TI := ⟨.struct #[⟨ "L", 33, 0, false, "", "", 0⟩, ⟨ "Great", 4, 1, false, "", "", 24⟩], 2, 32, .agg #[.slice none 0 0, .bool false], true⟩
theorem tok34 : Abs.TyOk Try.prog 34 ti34 := Abs.TyOk.mk' (by kernel_rfl) (by kernel_rfl) (by kernel_rfl) (fun fs e => by cases e; exact ⟨[(0, 1), (1, 1)], by kernel_rfl⟩) (fun _ => ⟨by kernel_rfl, by kernel_rfl⟩)
def ti35 : Abs.TI := ⟨.struct #[⟨ "L", 33, 0, false, "", "", 0⟩, ⟨ "Great", 4, 1, false, "", "", 24⟩], 2, 32, .agg #[.slice none 0 0, .bool false], true⟩
theorem tok35 : Abs.TyOk Try.prog 35 ti35 := Abs.TyOk.mk' (by kernel_rfl) (by kernel_rfl) (by kernel_rfl) (fun fs e => by cases e; exact ⟨[(0, 1), (1, 1)], by kernel_rfl⟩) (fun _ => ⟨by kernel_rfl, by kernel_rfl⟩)
def ti36 : Abs.TI := ⟨.func #[] #[22] false, 1, 8, .nilFunc, false⟩
theorem tok36 : Abs.TyOk Try.prog 36 ti36 := Abs.TyOk.mk' (by kernel_rfl) (by kernel_rfl) (by kernel_rfl) (fun fs e => by cases e) (fun h => by cases h)
def ti37 : Abs.TI := ⟨.pointer 71, 1, 8, .pointer none, false⟩
theorem tok37 : Abs.TyOk Try.prog 37 ti37 := Abs.TyOk.mk' (by kernel_rfl) (by kernel_rfl) (by kernel_rfl) (fun fs e => by cases e) (fun h => by cases h)
def ti39 : Abs.TI := ⟨.func #[22] #[37, 28] false, 1, 8, .nilFunc, false⟩
theorem tok39 : Abs.TyOk Try.prog 39 ti39 := Abs.TyOk.mk' (by kernel_rfl) (by kernel_rfl) (by kernel_rfl) (fun fs e => by cases e) (fun h => by cases h)
def ti40 : Abs.TI := ⟨.func #[] #[3] false, 1, 8, .nilFunc, false⟩
theorem tok40 : Abs.TyOk Try.prog 40 ti40 := Abs.TyOk.mk' (by kernel_rfl) (by kernel_rfl) (by kernel_rfl) (fun fs e => by cases e) (fun h => by cases h)
def ti42 : Abs.TI := ⟨.func #[3] #[2, 28] false, 1, 8, .nilFunc, false⟩
theorem tok42 : Abs.TyOk Try.prog 42 ti42 := Abs.TyOk.mk' (by kernel_rfl) (by kernel_rfl) (by kernel_rfl) (fun fs e => by cases e) (fun h => by cases h)
def ti44 : Abs.TI := ⟨.func #[2] #[3, 2, 28] false, 1, 8, .nilFunc, false⟩
theorem tok44 : Abs.TyOk Try.prog 44 ti44 := Abs.TyOk.mk' (by kernel_rfl) (by kernel_rfl) (by kernel_rfl) (fun fs e => by cases e) (fun h => by cases h)
def ti45 : Abs.TI := ⟨.func #[22, 3] #[2] false, 1, 8, .nilFunc, false⟩
theorem tok45 : Abs.TyOk Try.prog 45 ti45 := Abs.TyOk.mk' (by kernel_rfl) (by kernel_rfl) (by kernel_rfl) (fun fs e => by cases e) (fun h => by cases h)
def ti46 : Abs.TI := ⟨.func #[35, 3, 2] #[4] false, 1, 8, .nilFunc, false⟩
theorem tok46 : Abs.TyOk Try.prog 46 ti46 := Abs.TyOk.mk' (by kernel_rfl) (by kernel_rfl) (by kernel_rfl) (fun fs e => by cases e) (fun h => by cases h)
def ti48 : Abs.TI := ⟨.func #[3] #[27, 27, 28] false, 1, 8, .nilFunc, false⟩
theorem tok48 : Abs.TyOk Try.prog 48 ti48 := Abs.TyOk.mk' (by kernel_rfl) (by kernel_rfl) (by kernel_rfl) (fun fs e => by cases e) (fun h => by cases h)
def ti49 : Abs.TI := ⟨.func #[27, 27] #[27, 28] false, 1, 8, .nilFunc, false⟩
theorem tok49 : Abs.TyOk Try.prog 49 ti49 := Abs.TyOk.mk' (by kernel_rfl) (by kernel_rfl) (by kernel_rfl) (fun fs e => by cases e) (fun h => by cases h)
def ti51 : Abs.TI := ⟨.func #[22, 22] #[22, 3] false, 1, 8, .nilFunc, false⟩
theorem tok51 : Abs.TyOk Try.prog 51 ti51 := Abs.TyOk.mk' (by kernel_rfl) (by kernel_rfl) (by kernel_rfl) (fun fs e => by cases e) (fun h => by cases h)
def ti52 : Abs.TI := ⟨.func #[] #[2] false, 1, 8, .nilFunc, false⟩
theorem tok52 : Abs.TyOk Try.prog 52 ti52 := Abs.TyOk.mk' (by kernel_rfl) (by kernel_rfl) (by kernel_rfl) (fun fs e => by cases e) (fun h => by cases h)
def ti53 : Abs.TI := ⟨.func #[35, 35, 3] #[4] false, 1, 8, .nilFunc, false⟩
theorem tok53 : Abs.TyOk Try.prog 53 ti53 := Abs.TyOk.mk' (by kernel_rfl) (by kernel_rfl) (by kernel_rfl) (fun fs e => by cases e) (fun h => by cases h)
def ti54 : Abs.TI := ⟨.slice 56, 1, 24, .slice none 0 0, false⟩
theorem tok54 : Abs.TyOk Try.prog 54 ti54 := Abs.TyOk.mk' (by kernel_rfl) (by kernel_rfl) (by kernel_rfl) (fun fs e => by cases e) (fun h => by cases h)
def ti55 : Abs.TI := ⟨.struct #[⟨ "Kind", 5, 0, false, "", "", 0⟩, ⟨ "At", 3, 1, false, "", "", 8⟩, ⟨ "N", 3, 2, false, "", "", 16⟩, ⟨ "X", 3, 3, false, "", "", 24⟩, ⟨ "L", 22, 4, false, "", "", 32⟩], 5, 56, .agg #[.int .u8 0, .int .i64 0, .int .i64 0, .int .i64 0, .slice none 0 0], true⟩
theorem tok55 : Abs.TyOk Try.prog 55 ti55 := Abs.TyOk.mk' (by kernel_rfl) (by kernel_rfl) (by kernel_rfl) (fun fs e => by cases e; exact ⟨[(0, 1), (1, 1), (2, 1), (3, 1), (4, 1)], by kernel_rfl⟩) (fun _ => ⟨by kernel_rfl, by kernel_rfl⟩)
def ti56 : Abs.TI := ⟨.struct #[⟨ "Kind", 5, 0, false, "", "", 0⟩, ⟨ "At", 3, 1, false, "", "", 8⟩, ⟨ "N", 3, 2, false, "", "", 16⟩, ⟨ "X", 3, 3, false, "", "", 24⟩, ⟨ "L", 22, 4, false, "", "", 32⟩], 5, 56, .agg #[.int .u8 0, .int .i64 0, .int .i64 0, .int .i64 0, .slice none 0 0], true⟩
theorem tok56 : Abs.TyOk Try.prog 56 ti56 := Abs.TyOk.mk' (by kernel_rfl) (by kernel_rfl) (by kernel_rfl) (fun fs e => by cases e; exact ⟨[(0, 1), (1, 1), (2, 1), (3, 1), (4, 1)], by kernel_rfl⟩) (fun _ => ⟨by kernel_rfl, by kernel_rfl⟩)
def ti57 : Abs.TI := ⟨.func #[22, 3, 22] #[22, 3] false, 1, 8, .nilFunc, false⟩
theorem tok57 : Abs.TyOk Try.prog 57 ti57 := Abs.TyOk.mk' (by kernel_rfl) (by kernel_rfl) (by kernel_rfl) (fun fs e => by cases e) (fun h => by cases h)
def ti58 : Abs.TI := ⟨.func #[3, 22] #[27, 28] false, 1, 8, .nilFunc, false⟩
theorem tok58 : Abs.TyOk Try.prog 58 ti58 := Abs.TyOk.mk' (by kernel_rfl) (by kernel_rfl) (by kernel_rfl) (fun fs e => by cases e) (fun h => by cases h)
def ti59 : Abs.TI := ⟨.func #[22, 3, 3] #[22, 3] false, 1, 8, .nilFunc, false⟩
theorem tok59 : Abs.TyOk Try.prog 59 ti59 := Abs.TyOk.mk' (by kernel_rfl) (by kernel_rfl) (by kernel_rfl) (fun fs e => by cases e) (fun h => by cases h)
def ti60 : Abs.TI := ⟨.func #[3, 3] #[27, 28] false, 1, 8, .nilFunc, false⟩
theorem tok60 : Abs.TyOk Try.prog 60 ti60 := Abs.TyOk.mk' (by kernel_rfl) (by kernel_rfl) (by kernel_rfl) (fun fs e => by cases e) (fun h => by cases h)
def ti61 : Abs.TI := ⟨.func #[22, 3, 3, 3] #[22, 3] false, 1, 8, .nilFunc, false⟩
theorem tok61 : Abs.TyOk Try.prog 61 ti61 := Abs.TyOk.mk' (by kernel_rfl) (by kernel_rfl) (by kernel_rfl) (fun fs e => by cases e) (fun h => by cases h)
def ti62 : Abs.TI := ⟨.func #[3, 3, 3] #[27, 28] false, 1, 8, .nilFunc, false⟩
theorem tok62 : Abs.TyOk Try.prog 62 ti62 := Abs.TyOk.mk' (by kernel_rfl) (by kernel_rfl) (by kernel_rfl) (fun fs e => by cases e) (fun h => by cases h)
def ti63 : Abs.TI := ⟨.func #[22, 3, 2] #[22, 3] false, 1, 8, .nilFunc, false⟩
theorem tok63 : Abs.TyOk Try.prog 63 ti63 := Abs.TyOk.mk' (by kernel_rfl) (by kernel_rfl) (by kernel_rfl) (fun fs e => by cases e) (fun h => by cases h)
def ti64 : Abs.TI := ⟨.func #[3, 2] #[27, 28] false, 1, 8, .nilFunc, false⟩
theorem tok64 : Abs.TyOk Try.prog 64 ti64 := Abs.TyOk.mk' (by kernel_rfl) (by kernel_rfl) (by kernel_rfl) (fun fs e => by cases e) (fun h => by cases h)
def ti65 : Abs.TI := ⟨.func #[35, 54] #[4] false, 1, 8, .nilFunc, false⟩
theorem tok65 : Abs.TyOk Try.prog 65 ti65 := Abs.TyOk.mk' (by kernel_rfl) (by kernel_rfl) (by kernel_rfl) (fun fs e => by cases e) (fun h => by cases h)
def ti66 : Abs.TI := ⟨.func #[5, 4] #[4] false, 1, 8, .nilFunc, false⟩
theorem tok66 : Abs.TyOk Try.prog 66 ti66 := Abs.TyOk.mk' (by kernel_rfl) (by kernel_rfl) (by kernel_rfl) (fun fs e => by cases e) (fun h => by cases h)
def ti67 : Abs.TI := ⟨.func #[22] #[28] false, 1, 8, .nilFunc, false⟩
theorem tok67 : Abs.TyOk Try.prog 67 ti67 := Abs.TyOk.mk' (by kernel_rfl) (by kernel_rfl) (by kernel_rfl) (fun fs e => by cases e) (fun h => by cases h)
def ti68 : Abs.TI := ⟨.func #[22] #[25] false, 1, 8, .nilFunc, false⟩
theorem tok68 : Abs.TyOk Try.prog 68 ti68 := Abs.TyOk.mk' (by kernel_rfl) (by kernel_rfl) (by kernel_rfl) (fun fs e => by cases e) (fun h => by cases h)
def ti69 : Abs.TI := ⟨.func #[3] #[3] false, 1, 8, .nilFunc, false⟩
theorem tok69 : Abs.TyOk Try.prog 69 ti69 := Abs.TyOk.mk' (by kernel_rfl) (by kernel_rfl) (by kernel_rfl) (fun fs e => by cases e) (fun h => by cases h)
def ti70 : Abs.TI := ⟨.struct #[⟨ "made", 4, 0, false, "", str_2, 0⟩, ⟨ "sizes", 22, 1, false, "", str_2, 8⟩, ⟨ "sums", 22, 2, false, "", str_2, 32⟩, ⟨ "total", 2, 3, false, "", str_2, 56⟩], 4, 64, .agg #[.bool false, .slice none 0 0, .slice none 0 0, .int .i64 0], true⟩
theorem tok70 : Abs.TyOk Try.prog 70 ti70 := Abs.TyOk.mk' (by kernel_rfl) (by kernel_rfl) (by kernel_rfl) (fun fs e => by cases e; exact ⟨[(0, 1), (1, 1), (2, 1), (3, 1)], by kernel_rfl⟩) (fun _ => ⟨by kernel_rfl, by kernel_rfl⟩)
def ti71 : Abs.TI := ⟨.struct #[⟨ "made", 4, 0, false, "", str_2, 0⟩, ⟨ "sizes", 22, 1, false, "", str_2, 8⟩, ⟨ "sums", 22, 2, false, "", str_2, 32⟩, ⟨ "total", 2, 3, false, "", str_2, 56⟩], 4, 64, .agg #[.bool false, .slice none 0 0, .slice none 0 0, .int .i64 0], true⟩
theorem tok71 : Abs.TyOk Try.prog 71 ti71 := Abs.TyOk.mk' (by kernel_rfl) (by kernel_rfl) (by kernel_rfl) (fun fs e => by cases e; exact ⟨[(0, 1), (1, 1), (2, 1), (3, 1)], by kernel_rfl⟩) (fun _ => ⟨by kernel_rfl, by kernel_rfl⟩)
def ti72 : Abs.TI := ⟨.func #[3, 2] #[] false, 1, 8, .nilFunc, false⟩
theorem tok72 : Abs.TyOk Try.prog 72 ti72 := Abs.TyOk.mk' (by kernel_rfl) (by kernel_rfl) (by kernel_rfl) (fun fs e => by cases e) (fun h => by cases h)
def ti73 : Abs.TI := ⟨.func #[25] #[3] false, 1, 8, .nilFunc, false⟩
theorem tok73 : Abs.TyOk Try.prog 73 ti73 := Abs.TyOk.mk' (by kernel_rfl) (by kernel_rfl) (by kernel_rfl) (fun fs e => by cases e) (fun h => by cases h)
def ti74 : Abs.TI := ⟨.struct #[⟨ "left", 25, 0, false, "", str_1, 0⟩, ⟨ "right", 25, 1, false, "", str_1, 8⟩, ⟨ "size", 2, 2, false, "", str_1, 16⟩, ⟨ "count", 3, 3, false, "", str_1, 24⟩, ⟨ "height", 3, 4, false, "", str_1, 32⟩, ⟨ "sum", 2, 5, false, "", str_1, 40⟩], 6, 48, .agg #[.pointer none, .pointer none, .int .i64 0, .int .i64 0, .int .i64 0, .int .i64 0], true⟩
theorem tok74 : Abs.TyOk Try.prog 74 ti74 := Abs.TyOk.mk' (by kernel_rfl) (by kernel_rfl) (by kernel_rfl) (fun fs e => by cases e; exact ⟨[(0, 1), (1, 1), (2, 1), (3, 1), (4, 1), (5, 1)], by kernel_rfl⟩) (fun _ => ⟨by kernel_rfl, by kernel_rfl⟩)
def ti75 : Abs.TI := ⟨.struct #[⟨ "left", 25, 0, false, "", str_1, 0⟩, ⟨ "right", 25, 1, false, "", str_1, 8⟩, ⟨ "size", 2, 2, false, "", str_1, 16⟩, ⟨ "count", 3, 3, false, "", str_1, 24⟩, ⟨ "height", 3, 4, false, "", str_1, 32⟩, ⟨ "sum", 2, 5, false, "", str_1, 40⟩], 6, 48, .agg #[.pointer none, .pointer none, .int .i64 0, .int .i64 0, .int .i64 0, .int .i64 0], true⟩
theorem tok75 : Abs.TyOk Try.prog 75 ti75 := Abs.TyOk.mk' (by kernel_rfl) (by kernel_rfl) (by kernel_rfl) (fun fs e => by cases e; exact ⟨[(0, 1), (1, 1), (2, 1), (3, 1), (4, 1), (5, 1)], by kernel_rfl⟩) (fun _ => ⟨by kernel_rfl, by kernel_rfl⟩)
def ti76 : Abs.TI := ⟨.func #[3, 3] #[28] false, 1, 8, .nilFunc, false⟩
theorem tok76 : Abs.TyOk Try.prog 76 ti76 := Abs.TyOk.mk' (by kernel_rfl) (by kernel_rfl) (by kernel_rfl) (fun fs e => by cases e) (fun h => by cases h)
def ti77 : Abs.TI := ⟨.func #[25] #[2] false, 1, 8, .nilFunc, false⟩
theorem tok77 : Abs.TyOk Try.prog 77 ti77 := Abs.TyOk.mk' (by kernel_rfl) (by kernel_rfl) (by kernel_rfl) (fun fs e => by cases e) (fun h => by cases h)
def ti78 : Abs.TI := ⟨.func #[79] #[3] false, 1, 8, .nilFunc, false⟩
theorem tok78 : Abs.TyOk Try.prog 78 ti78 := Abs.TyOk.mk' (by kernel_rfl) (by kernel_rfl) (by kernel_rfl) (fun fs e => by cases e) (fun h => by cases h)
def ti79 : Abs.TI := ⟨.int .u64, 1, 8, .int .u64 0, false⟩
theorem tok79 : Abs.TyOk Try.prog 79 ti79 := Abs.TyOk.mk' (by kernel_rfl) (by kernel_rfl) (by kernel_rfl) (fun fs e => by cases e) (fun h => by cases h)
def ti81 : Abs.TI := ⟨.func #[25, 3] #[25, 25] false, 1, 8, .nilFunc, false⟩
theorem tok81 : Abs.TyOk Try.prog 81 ti81 := Abs.TyOk.mk' (by kernel_rfl) (by kernel_rfl) (by kernel_rfl) (fun fs e => by cases e) (fun h => by cases h)
def ti82 : Abs.TI := ⟨.func #[27, 27] #[28] false, 1, 8, .nilFunc, false⟩
theorem tok82 : Abs.TyOk Try.prog 82 ti82 := Abs.TyOk.mk' (by kernel_rfl) (by kernel_rfl) (by kernel_rfl) (fun fs e => by cases e) (fun h => by cases h)
def ti83 : Abs.TI := ⟨.func #[25, 25] #[25] false, 1, 8, .nilFunc, false⟩
theorem tok83 : Abs.TyOk Try.prog 83 ti83 := Abs.TyOk.mk' (by kernel_rfl) (by kernel_rfl) (by kernel_rfl) (fun fs e => by cases e) (fun h => by cases h)
def ti84 : Abs.TI := ⟨.func #[3, 3] #[4] false, 1, 8, .nilFunc, false⟩
theorem tok84 : Abs.TyOk Try.prog 84 ti84 := Abs.TyOk.mk' (by kernel_rfl) (by kernel_rfl) (by kernel_rfl) (fun fs e => by cases e) (fun h => by cases h)
def ti85 : Abs.TI := ⟨.func #[25, 3, 2] #[25] false, 1, 8, .nilFunc, false⟩
theorem tok85 : Abs.TyOk Try.prog 85 ti85 := Abs.TyOk.mk' (by kernel_rfl) (by kernel_rfl) (by kernel_rfl) (fun fs e => by cases e) (fun h => by cases h)
def ti86 : Abs.TI := ⟨.func #[25, 2, 25] #[25] false, 1, 8, .nilFunc, false⟩
theorem tok86 : Abs.TyOk Try.prog 86 ti86 := Abs.TyOk.mk' (by kernel_rfl) (by kernel_rfl) (by kernel_rfl) (fun fs e => by cases e) (fun h => by cases h)
def ti87 : Abs.TI := ⟨.func #[25] #[] false, 1, 8, .nilFunc, false⟩
theorem tok87 : Abs.TyOk Try.prog 87 ti87 := Abs.TyOk.mk' (by kernel_rfl) (by kernel_rfl) (by kernel_rfl) (fun fs e => by cases e) (fun h => by cases h)
def ti88 : Abs.TI := ⟨.func #[3] #[] false, 1, 8, .nilFunc, false⟩
theorem tok88 : Abs.TyOk Try.prog 88 ti88 := Abs.TyOk.mk' (by kernel_rfl) (by kernel_rfl) (by kernel_rfl) (fun fs e => by cases e) (fun h => by cases h)
def ti89 : Abs.TI := ⟨.func #[88] #[] false, 1, 8, .nilFunc, false⟩
theorem tok89 : Abs.TyOk Try.prog 89 ti89 := Abs.TyOk.mk' (by kernel_rfl) (by kernel_rfl) (by kernel_rfl) (fun fs e => by cases e) (fun h => by cases h)
def ti90 : Abs.TI := ⟨.func #[91] #[3] false, 1, 8, .nilFunc, false⟩
theorem tok90 : Abs.TyOk Try.prog 90 ti90 := Abs.TyOk.mk' (by kernel_rfl) (by kernel_rfl) (by kernel_rfl) (fun fs e => by cases e) (fun h => by cases h)
def ti91 : Abs.TI := ⟨.int .u32, 1, 4, .int .u32 0, false⟩
theorem tok91 : Abs.TyOk Try.prog 91 ti91 := Abs.TyOk.mk' (by kernel_rfl) (by kernel_rfl) (by kernel_rfl) (fun fs e => by cases e) (fun h => by cases h)
def ti92 : Abs.TI := ⟨.func #[93] #[3] false, 1, 8, .nilFunc, false⟩
theorem tok92 : Abs.TyOk Try.prog 92 ti92 := Abs.TyOk.mk' (by kernel_rfl) (by kernel_rfl) (by kernel_rfl) (fun fs e => by cases e) (fun h => by cases h)
def ti93 : Abs.TI := ⟨.int .u64, 1, 8, .int .u64 0, false⟩
theorem tok93 : Abs.TyOk Try.prog 93 ti93 := Abs.TyOk.mk' (by kernel_rfl) (by kernel_rfl) (by kernel_rfl) (fun fs e => by cases e) (fun h => by cases h)
def ti95 : Abs.TI := ⟨.func #[25] #[2, 25] false, 1, 8, .nilFunc, false⟩
theorem tok95 : Abs.TyOk Try.prog 95 ti95 := Abs.TyOk.mk' (by kernel_rfl) (by kernel_rfl) (by kernel_rfl) (fun fs e => by cases e) (fun h => by cases h)
def ti96 : Abs.TI := ⟨.func #[] #[25] false, 1, 8, .nilFunc, false⟩
theorem tok96 : Abs.TyOk Try.prog 96 ti96 := Abs.TyOk.mk' (by kernel_rfl) (by kernel_rfl) (by kernel_rfl) (fun fs e => by cases e) (fun h => by cases h)
def ti97 : Abs.TI := ⟨.func #[] #[9] false, 1, 8, .nilFunc, false⟩
theorem tok97 : Abs.TyOk Try.prog 97 ti97 := Abs.TyOk.mk' (by kernel_rfl) (by kernel_rfl) (by kernel_rfl) (fun fs e => by cases e) (fun h => by cases h)
def ti98 : Abs.TI := ⟨.struct #[⟨ "_interface", 17, 0, false, "", "runtime", 0⟩, ⟨ "concrete", 17, 1, false, "", "runtime", 8⟩, ⟨ "asserted", 17, 2, false, "", "runtime", 16⟩, ⟨ "missingMethod", 9, 3, false, "", "runtime", 24⟩], 4, 40, .agg #[.pointer none, .pointer none, .pointer none, .string ⟨#[]⟩], false⟩
theorem tok98 : Abs.TyOk Try.prog 98 ti98 := Abs.TyOk.mk' (by kernel_rfl) (by kernel_rfl) (by kernel_rfl) (fun fs e => by cases e; exact ⟨[(0, 1), (1, 1), (2, 1), (3, 1)], by kernel_rfl⟩) (fun h => by cases h)
def ti99 : Abs.TI := ⟨.struct #[⟨ "_interface", 17, 0, false, "", "runtime", 0⟩, ⟨ "concrete", 17, 1, false, "", "runtime", 8⟩, ⟨ "asserted", 17, 2, false, "", "runtime", 16⟩, ⟨ "missingMethod", 9, 3, false, "", "runtime", 24⟩], 4, 40, .agg #[.pointer none, .pointer none, .pointer none, .string ⟨#[]⟩], false⟩
theorem tok99 : Abs.TyOk Try.prog 99 ti99 := Abs.TyOk.mk' (by kernel_rfl) (by kernel_rfl) (by kernel_rfl) (fun fs e => by cases e; exact ⟨[(0, 1), (1, 1), (2, 1), (3, 1)], by kernel_rfl⟩) (fun h => by cases h)
def ti100 : Abs.TI := ⟨.array 0 16, 0, 0, .agg #[], false⟩
theorem tok100 : Abs.TyOk Try.prog 100 ti100 := Abs.TyOk.mk' (by kernel_rfl) (by kernel_rfl) (by kernel_rfl) (fun fs e => by cases e) (fun h => by cases h)
def ti101 : Abs.TI := ⟨.struct #[⟨ "_", 100, 0, false, "", "runtime", 0⟩], 0, 0, .agg #[], false⟩
theorem tok101 : Abs.TyOk Try.prog 101 ti101 := Abs.TyOk.mk' (by kernel_rfl) (by kernel_rfl) (by kernel_rfl) (fun fs e => by cases e; exact ⟨[(0, 0)], by kernel_rfl⟩) (fun h => by cases h)
def ti102 : Abs.TI := ⟨.struct #[⟨ "_", 100, 0, false, "", "runtime", 0⟩], 0, 0, .agg #[], false⟩
theorem tok102 : Abs.TyOk Try.prog 102 ti102 := Abs.TyOk.mk' (by kernel_rfl) (by kernel_rfl) (by kernel_rfl) (fun fs e => by cases e; exact ⟨[(0, 0)], by kernel_rfl⟩) (fun h => by cases h)
def ti103 : Abs.TI := ⟨.int .u8, 1, 1, .int .u8 0, false⟩
theorem tok103 : Abs.TyOk Try.prog 103 ti103 := Abs.TyOk.mk' (by kernel_rfl) (by kernel_rfl) (by kernel_rfl) (fun fs e => by cases e) (fun h => by cases h)
def ti104 : Abs.TI := ⟨.int .u8, 1, 1, .int .u8 0, false⟩
theorem tok104 : Abs.TyOk Try.prog 104 ti104 := Abs.TyOk.mk' (by kernel_rfl) (by kernel_rfl) (by kernel_rfl) (fun fs e => by cases e) (fun h => by cases h)
def ti105 : Abs.TI := ⟨.func #[111, 111] #[4] false, 1, 8, .nilFunc, false⟩
theorem tok105 : Abs.TyOk Try.prog 105 ti105 := Abs.TyOk.mk' (by kernel_rfl) (by kernel_rfl) (by kernel_rfl) (fun fs e => by cases e) (fun h => by cases h)
def ti106 : Abs.TI := ⟨.pointer 5, 1, 8, .pointer none, false⟩
theorem tok106 : Abs.TyOk Try.prog 106 ti106 := Abs.TyOk.mk' (by kernel_rfl) (by kernel_rfl) (by kernel_rfl) (fun fs e => by cases e) (fun h => by cases h)
def ti107 : Abs.TI := ⟨.int .i32, 1, 4, .int .i32 0, false⟩
theorem tok107 : Abs.TyOk Try.prog 107 ti107 := Abs.TyOk.mk' (by kernel_rfl) (by kernel_rfl) (by kernel_rfl) (fun fs e => by cases e) (fun h => by cases h)
def ti108 : Abs.TI := ⟨.int .i32, 1, 4, .int .i32 0, false⟩
theorem tok108 : Abs.TyOk Try.prog 108 ti108 := Abs.TyOk.mk' (by kernel_rfl) (by kernel_rfl) (by kernel_rfl) (fun fs e => by cases e) (fun h => by cases h)
def ti109 : Abs.TI := ⟨.struct #[⟨ "Size_", 12, 0, false, "", "", 0⟩, ⟨ "PtrBytes", 12, 1, false, "", "", 8⟩, ⟨ "Hash", 91, 2, false, "", "", 16⟩, ⟨ "TFlag", 103, 3, false, "", "", 20⟩, ⟨ "Align_", 5, 4, false, "", "", 21⟩, ⟨ "FieldAlign_", 5, 5, false, "", "", 22⟩, ⟨ "Kind_", 104, 6, false, "", "", 23⟩, ⟨ "Equal", 105, 7, false, "", "", 24⟩, ⟨ "GCData", 106, 8, false, "", "", 32⟩, ⟨ "Str", 107, 9, false, "", "", 40⟩, ⟨ "PtrToThis", 108, 10, false, "", "", 44⟩], 11, 48, .agg #[.int .u64 0, .int .u64 0, .int .u32 0, .int .u8 0, .int .u8 0, .int .u8 0, .int .u8 0, .nilFunc, .pointer none, .int .i32 0, .int .i32 0], false⟩
theorem tok109 : Abs.TyOk Try.prog 109 ti109 := Abs.TyOk.mk' (by kernel_rfl) (by kernel_rfl) (by kernel_rfl) (fun fs e => by cases e; exact ⟨[(0, 1), (1, 1), (2, 1), (3, 1), (4, 1), (5, 1), (6, 1), (7, 1), (8, 1), (9, 1), (10, 1)], by kernel_rfl⟩) (fun h => by cases h)
def ti110 : Abs.TI := ⟨.struct #[⟨ "Size_", 12, 0, false, "", "", 0⟩, ⟨ "PtrBytes", 12, 1, false, "", "", 8⟩, ⟨ "Hash", 91, 2, false, "", "", 16⟩, ⟨ "TFlag", 103, 3, false, "", "", 20⟩, ⟨ "Align_", 5, 4, false, "", "", 21⟩, ⟨ "FieldAlign_", 5, 5, false, "", "", 22⟩, ⟨ "Kind_", 104, 6, false, "", "", 23⟩, ⟨ "Equal", 105, 7, false, "", "", 24⟩, ⟨ "GCData", 106, 8, false, "", "", 32⟩, ⟨ "Str", 107, 9, false, "", "", 40⟩, ⟨ "PtrToThis", 108, 10, false, "", "", 44⟩], 11, 48, .agg #[.int .u64 0, .int .u64 0, .int .u32 0, .int .u8 0, .int .u8 0, .int .u8 0, .int .u8 0, .nilFunc, .pointer none, .int .i32 0, .int .i32 0], false⟩
theorem tok110 : Abs.TyOk Try.prog 110 ti110 := Abs.TyOk.mk' (by kernel_rfl) (by kernel_rfl) (by kernel_rfl) (fun fs e => by cases e; exact ⟨[(0, 1), (1, 1), (2, 1), (3, 1), (4, 1), (5, 1), (6, 1), (7, 1), (8, 1), (9, 1), (10, 1)], by kernel_rfl⟩) (fun h => by cases h)
def ti111 : Abs.TI := ⟨.unsafePointer, 1, 8, .pointer none, false⟩
theorem tok111 : Abs.TyOk Try.prog 111 ti111 := Abs.TyOk.mk' (by kernel_rfl) (by kernel_rfl) (by kernel_rfl) (fun fs e => by cases e) (fun h => by cases h)
theorem fok3 : Abs.FunOk Try.prog 3 Try.f3 := Abs.FunOk.mk' Try.func3 (by kernel_rfl) (by kernel_rfl)
theorem fok4 : Abs.FunOk Try.prog 4 Try.f4 := Abs.FunOk.mk' Try.func4 (by kernel_rfl) (by kernel_rfl)
theorem fok5 : Abs.FunOk Try.prog 5 Try.f5 := Abs.FunOk.mk' Try.func5 (by kernel_rfl) (by kernel_rfl)
theorem fok6 : Abs.FunOk Try.prog 6 Try.f6 := Abs.FunOk.mk' Try.func6 (by kernel_rfl) (by kernel_rfl)
theorem fok7 : Abs.FunOk Try.prog 7 Try.f7 := Abs.FunOk.mk' Try.func7 (by kernel_rfl) (by kernel_rfl)
theorem fok8 : Abs.FunOk Try.prog 8 Try.f8 := Abs.FunOk.mk' Try.func8 (by kernel_rfl) (by kernel_rfl)
theorem fok9 : Abs.FunOk Try.prog 9 Try.f9 := Abs.FunOk.mk' Try.func9 (by kernel_rfl) (by kernel_rfl)
theorem fok10 : Abs.FunOk Try.prog 10 Try.f10 := Abs.FunOk.mk' Try.func10 (by kernel_rfl) (by kernel_rfl)
theorem fok11 : Abs.FunOk Try.prog 11 Try.f11 := Abs.FunOk.mk' Try.func11 (by kernel_rfl) (by kernel_rfl)
theorem fok12 : Abs.FunOk Try.prog 12 Try.f12 := Abs.FunOk.mk' Try.func12 (by kernel_rfl) (by kernel_rfl)
theorem fok13 : Abs.FunOk Try.prog 13 Try.f13 := Abs.FunOk.mk' Try.func13 (by kernel_rfl) (by kernel_rfl)
theorem fok14 : Abs.FunOk Try.prog 14 Try.f14 := Abs.FunOk.mk' Try.func14 (by kernel_rfl) (by kernel_rfl)
theorem fok15 : Abs.FunOk Try.prog 15 Try.f15 := Abs.FunOk.mk' Try.func15 (by kernel_rfl) (by kernel_rfl)
theorem fok16 : Abs.FunOk Try.prog 16 Try.f16 := Abs.FunOk.mk' Try.func16 (by kernel_rfl) (by kernel_rfl)
theorem fok17 : Abs.FunOk Try.prog 17 Try.f17 := Abs.FunOk.mk' Try.func17 (by kernel_rfl) (by kernel_rfl)
theorem fok18 : Abs.FunOk Try.prog 18 Try.f18 := Abs.FunOk.mk' Try.func18 (by kernel_rfl) (by kernel_rfl)
theorem fok19 : Abs.FunOk Try.prog 19 Try.f19 := Abs.FunOk.mk' Try.func19 (by kernel_rfl) (by kernel_rfl)
theorem fok20 : Abs.FunOk Try.prog 20 Try.f20 := Abs.FunOk.mk' Try.func20 (by kernel_rfl) (by kernel_rfl)
theorem fok21 : Abs.FunOk Try.prog 21 Try.f21 := Abs.FunOk.mk' Try.func21 (by kernel_rfl) (by kernel_rfl)
theorem fok22 : Abs.FunOk Try.prog 22 Try.f22 := Abs.FunOk.mk' Try.func22 (by kernel_rfl) (by kernel_rfl)
theorem fok23 : Abs.FunOk Try.prog 23 Try.f23 := Abs.FunOk.mk' Try.func23 (by kernel_rfl) (by kernel_rfl)
theorem fok24 : Abs.FunOk Try.prog 24 Try.f24 := Abs.FunOk.mk' Try.func24 (by kernel_rfl) (by kernel_rfl)
theorem fok25 : Abs.FunOk Try.prog 25 Try.f25 := Abs.FunOk.mk' Try.func25 (by kernel_rfl) (by kernel_rfl)
theorem fok26 : Abs.FunOk Try.prog 26 Try.f26 := Abs.FunOk.mk' Try.func26 (by kernel_rfl) (by kernel_rfl)
theorem fok27 : Abs.FunOk Try.prog 27 Try.f27 := Abs.FunOk.mk' Try.func27 (by kernel_rfl) (by kernel_rfl)
theorem fok28 : Abs.FunOk Try.prog 28 Try.f28 := Abs.FunOk.mk' Try.func28 (by kernel_rfl) (by kernel_rfl)
theorem fok29 : Abs.FunOk Try.prog 29 Try.f29 := Abs.FunOk.mk' Try.func29 (by kernel_rfl) (by kernel_rfl)
theorem fok30 : Abs.FunOk Try.prog 30 Try.f30 := Abs.FunOk.mk' Try.func30 (by kernel_rfl) (by kernel_rfl)
theorem fok31 : Abs.FunOk Try.prog 31 Try.f31 := Abs.FunOk.mk' Try.func31 (by kernel_rfl) (by kernel_rfl)
theorem fok32 : Abs.FunOk Try.prog 32 Try.f32 := Abs.FunOk.mk' Try.func32 (by kernel_rfl) (by kernel_rfl)
theorem fok33 : Abs.FunOk Try.prog 33 Try.f33 := Abs.FunOk.mk' Try.func33 (by kernel_rfl) (by kernel_rfl)
theorem fok34 : Abs.FunOk Try.prog 34 Try.f34 := Abs.FunOk.mk' Try.func34 (by kernel_rfl) (by kernel_rfl)
theorem fok35 : Abs.FunOk Try.prog 35 Try.f35 := Abs.FunOk.mk' Try.func35 (by kernel_rfl) (by kernel_rfl)
theorem fok36 : Abs.FunOk Try.prog 36 Try.f36 := Abs.FunOk.mk' Try.func36 (by kernel_rfl) (by kernel_rfl)
theorem fok37 : Abs.FunOk Try.prog 37 Try.f37 := Abs.FunOk.mk' Try.func37 (by kernel_rfl) (by kernel_rfl)
theorem fok38 : Abs.FunOk Try.prog 38 Try.f38 := Abs.FunOk.mk' Try.func38 (by kernel_rfl) (by kernel_rfl)
theorem fok39 : Abs.FunOk Try.prog 39 Try.f39 := Abs.FunOk.mk' Try.func39 (by kernel_rfl) (by kernel_rfl)
theorem fok40 : Abs.FunOk Try.prog 40 Try.f40 := Abs.FunOk.mk' Try.func40 (by kernel_rfl) (by kernel_rfl)
theorem fok41 : Abs.FunOk Try.prog 41 Try.f41 := Abs.FunOk.mk' Try.func41 (by kernel_rfl) (by kernel_rfl)
theorem fok42 : Abs.FunOk Try.prog 42 Try.f42 := Abs.FunOk.mk' Try.func42 (by kernel_rfl) (by kernel_rfl)
theorem fok43 : Abs.FunOk Try.prog 43 Try.f43 := Abs.FunOk.mk' Try.func43 (by kernel_rfl) (by kernel_rfl)
theorem fok44 : Abs.FunOk Try.prog 44 Try.f44 := Abs.FunOk.mk' Try.func44 (by kernel_rfl) (by kernel_rfl)
theorem fok45 : Abs.FunOk Try.prog 45 Try.f45 := Abs.FunOk.mk' Try.func45 (by kernel_rfl) (by kernel_rfl)
theorem fok46 : Abs.FunOk Try.prog 46 Try.f46 := Abs.FunOk.mk' Try.func46 (by kernel_rfl) (by kernel_rfl)
theorem fok47 : Abs.FunOk Try.prog 47 Try.f47 := Abs.FunOk.mk' Try.func47 (by kernel_rfl) (by kernel_rfl)
theorem fok48 : Abs.FunOk Try.prog 48 Try.f48 := Abs.FunOk.mk' Try.func48 (by kernel_rfl) (by kernel_rfl)
theorem fok49 : Abs.FunOk Try.prog 49 Try.f49 := Abs.FunOk.mk' Try.func49 (by kernel_rfl) (by kernel_rfl)
theorem fok50 : Abs.FunOk Try.prog 50 Try.f50 := Abs.FunOk.mk' Try.func50 (by kernel_rfl) (by kernel_rfl)
theorem fok51 : Abs.FunOk Try.prog 51 Try.f51 := Abs.FunOk.mk' Try.func51 (by kernel_rfl) (by kernel_rfl)
theorem fok52 : Abs.FunOk Try.prog 52 Try.f52 := Abs.FunOk.mk' Try.func52 (by kernel_rfl) (by kernel_rfl)
theorem fok53 : Abs.FunOk Try.prog 53 Try.f53 := Abs.FunOk.mk' Try.func53 (by kernel_rfl) (by kernel_rfl)
theorem fok54 : Abs.FunOk Try.prog 54 Try.f54 := Abs.FunOk.mk' Try.func54 (by kernel_rfl) (by kernel_rfl)
theorem fok55 : Abs.FunOk Try.prog 55 Try.f55 := Abs.FunOk.mk' Try.func55 (by kernel_rfl) (by kernel_rfl)
theorem fok56 : Abs.FunOk Try.prog 56 Try.f56 := Abs.FunOk.mk' Try.func56 (by kernel_rfl) (by kernel_rfl)
theorem fok57 : Abs.FunOk Try.prog 57 Try.f57 := Abs.FunOk.mk' Try.func57 (by kernel_rfl) (by kernel_rfl)
theorem fok58 : Abs.FunOk Try.prog 58 Try.f58 := Abs.FunOk.mk' Try.func58 (by kernel_rfl) (by kernel_rfl)
theorem fok59 : Abs.FunOk Try.prog 59 Try.f59 := Abs.FunOk.mk' Try.func59 (by kernel_rfl) (by kernel_rfl)
theorem fok60 : Abs.FunOk Try.prog 60 Try.f60 := Abs.FunOk.mk' Try.func60 (by kernel_rfl) (by kernel_rfl)
theorem fok61 : Abs.FunOk Try.prog 61 Try.f61 := Abs.FunOk.mk' Try.func61 (by kernel_rfl) (by kernel_rfl)
theorem fok62 : Abs.FunOk Try.prog 62 Try.f62 := Abs.FunOk.mk' Try.func62 (by kernel_rfl) (by kernel_rfl)
theorem fok63 : Abs.FunOk Try.prog 63 Try.f63 := Abs.FunOk.mk' Try.func63 (by kernel_rfl) (by kernel_rfl)
theorem fok64 : Abs.FunOk Try.prog 64 Try.f64 := Abs.FunOk.mk' Try.func64 (by kernel_rfl) (by kernel_rfl)
theorem fok65 : Abs.FunOk Try.prog 65 Try.f65 := Abs.FunOk.mk' Try.func65 (by kernel_rfl) (by kernel_rfl)
theorem fok66 : Abs.FunOk Try.prog 66 Try.f66 := Abs.FunOk.mk' Try.func66 (by kernel_rfl) (by kernel_rfl)
noncomputable def tys : Abs.T Abs.TI := (.node (.node (.node (.node (.node (.node (.node .leaf (.some ti63) .leaf) (.some ti31) (.node .leaf (.some ti95) .leaf)) (.some ti15) (.node (.node .leaf (.some ti79) .leaf) .none (.node .leaf (.some ti111) .leaf))) (.some ti7) (.node (.node (.node .leaf (.some ti71) .leaf) (.some ti39) (.node .leaf (.some ti103) .leaf)) (.some ti23) (.node (.node .leaf (.some ti87) .leaf) (.some ti55) .leaf))) (.some ti3) (.node (.node (.node (.node .leaf (.some ti67) .leaf) (.some ti35) (.node .leaf (.some ti99) .leaf)) (.some ti19) (.node (.node .leaf (.some ti83) .leaf) (.some ti51) .leaf)) (.some ti11) (.node (.node (.node .leaf (.some ti75) .leaf) .none (.node .leaf (.some ti107) .leaf)) (.some ti27) (.node (.node .leaf (.some ti91) .leaf) (.some ti59) .leaf)))) (.some ti1) (.node (.node (.node (.node (.node .leaf (.some ti65) .leaf) (.some ti33) (.node .leaf (.some ti97) .leaf)) (.some ti17) (.node (.node .leaf (.some ti81) .leaf) (.some ti49) .leaf)) (.some ti9) (.node (.node (.node .leaf (.some ti73) .leaf) .none (.node .leaf (.some ti105) .leaf)) (.some ti25) (.node (.node .leaf (.some ti89) .leaf) (.some ti57) .leaf))) (.some ti5) (.node (.node (.node (.node .leaf (.some ti69) .leaf) (.some ti37) (.node .leaf (.some ti101) .leaf)) (.some ti21) (.node (.node .leaf (.some ti85) .leaf) (.some ti53) .leaf)) (.some ti13) (.node (.node (.node .leaf (.some ti77) .leaf) (.some ti45) (.node .leaf (.some ti109) .leaf)) .none (.node (.node .leaf (.some ti93) .leaf) (.some ti61) .leaf))))) .none (.node (.node (.node (.node (.node (.node .leaf (.some ti64) .leaf) (.some ti32) (.node .leaf (.some ti96) .leaf)) (.some ti16) (.node .leaf (.some ti48) .leaf)) (.some ti8) (.node (.node (.node .leaf (.some ti72) .leaf) (.some ti40) (.node .leaf (.some ti104) .leaf)) (.some ti24) (.node (.node .leaf (.some ti88) .leaf) (.some ti56) .leaf))) (.some ti4) (.node (.node (.node (.node .leaf (.some ti68) .leaf) (.some ti36) (.node .leaf (.some ti100) .leaf)) (.some ti20) (.node (.node .leaf (.some ti84) .leaf) (.some ti52) .leaf)) (.some ti12) (.node (.node (.node .leaf (.some ti76) .leaf) (.some ti44) (.node .leaf (.some ti108) .leaf)) (.some ti28) (.node (.node .leaf (.some ti92) .leaf) (.some ti60) .leaf)))) (.some ti2) (.node (.node (.node (.node (.node .leaf (.some ti66) .leaf) (.some ti34) (.node .leaf (.some ti98) .leaf)) (.some ti18) (.node (.node .leaf (.some ti82) .leaf) .none .leaf)) (.some ti10) (.node (.node (.node .leaf (.some ti74) .leaf) (.some ti42) (.node .leaf (.some ti106) .leaf)) (.some ti26) (.node (.node .leaf (.some ti90) .leaf) (.some ti58) .leaf))) (.some ti6) (.node (.node (.node (.node .leaf (.some ti70) .leaf) .none (.node .leaf (.some ti102) .leaf)) (.some ti22) (.node (.node .leaf (.some ti86) .leaf) (.some ti54) .leaf)) (.some ti14) (.node (.node (.node .leaf (.some ti78) .leaf) (.some ti46) (.node .leaf (.some ti110) .leaf)) (.some ti30) (.node .leaf (.some ti62) .leaf))))))
noncomputable def funs : Abs.T Func := (.node (.node (.node (.node (.node (.node (.node .leaf (.some Try.f63) .leaf) (.some Try.f31) .leaf) (.some Try.f15) (.node .leaf (.some Try.f47) .leaf)) (.some Try.f7) (.node (.node .leaf (.some Try.f39) .leaf) (.some Try.f23) (.node .leaf (.some Try.f55) .leaf))) (.some Try.f3) (.node (.node (.node .leaf (.some Try.f35) .leaf) (.some Try.f19) (.node .leaf (.some Try.f51) .leaf)) (.some Try.f11) (.node (.node .leaf (.some Try.f43) .leaf) (.some Try.f27) (.node .leaf (.some Try.f59) .leaf)))) .none (.node (.node (.node (.node (.node .leaf (.some Try.f65) .leaf) (.some Try.f33) .leaf) (.some Try.f17) (.node .leaf (.some Try.f49) .leaf)) (.some Try.f9) (.node (.node .leaf (.some Try.f41) .leaf) (.some Try.f25) (.node .leaf (.some Try.f57) .leaf))) (.some Try.f5) (.node (.node (.node .leaf (.some Try.f37) .leaf) (.some Try.f21) (.node .leaf (.some Try.f53) .leaf)) (.some Try.f13) (.node (.node .leaf (.some Try.f45) .leaf) (.some Try.f29) (.node .leaf (.some Try.f61) .leaf))))) .none (.node (.node (.node (.node (.node (.node .leaf (.some Try.f64) .leaf) (.some Try.f32) .leaf) (.some Try.f16) (.node .leaf (.some Try.f48) .leaf)) (.some Try.f8) (.node (.node .leaf (.some Try.f40) .leaf) (.some Try.f24) (.node .leaf (.some Try.f56) .leaf))) (.some Try.f4) (.node (.node (.node .leaf (.some Try.f36) .leaf) (.some Try.f20) (.node .leaf (.some Try.f52) .leaf)) (.some Try.f12) (.node (.node .leaf (.some Try.f44) .leaf) (.some Try.f28) (.node .leaf (.some Try.f60) .leaf)))) .none (.node (.node (.node (.node (.node .leaf (.some Try.f66) .leaf) (.some Try.f34) .leaf) (.some Try.f18) (.node .leaf (.some Try.f50) .leaf)) (.some Try.f10) (.node (.node .leaf (.some Try.f42) .leaf) (.some Try.f26) (.node .leaf (.some Try.f58) .leaf))) (.some Try.f6) (.node (.node (.node .leaf (.some Try.f38) .leaf) (.some Try.f22) (.node .leaf (.some Try.f54) .leaf)) (.some Try.f14) (.node (.node .leaf (.some Try.f46) .leaf) (.some Try.f30) (.node .leaf (.some Try.f62) .leaf))))))
noncomputable def ctx : Abs.Ctx := ⟨funs, tys⟩
theorem tysOk : Abs.TysOk Try.prog ctx := Abs.T.allP (p := Abs.TyOk Try.prog) tys (fun j => j) ⟨⟨⟨⟨⟨⟨⟨trivial, Abs.some_p tok63, trivial⟩, Abs.some_p tok31, ⟨trivial, Abs.some_p tok95, trivial⟩⟩, Abs.some_p tok15, ⟨⟨trivial, Abs.some_p tok79, trivial⟩, Abs.none_p, ⟨trivial, Abs.some_p tok111, trivial⟩⟩⟩, Abs.some_p tok7, ⟨⟨⟨trivial, Abs.some_p tok71, trivial⟩, Abs.some_p tok39, ⟨trivial, Abs.some_p tok103, trivial⟩⟩, Abs.some_p tok23, ⟨⟨trivial, Abs.some_p tok87, trivial⟩, Abs.some_p tok55, trivial⟩⟩⟩, Abs.some_p tok3, ⟨⟨⟨⟨trivial, Abs.some_p tok67, trivial⟩, Abs.some_p tok35, ⟨trivial, Abs.some_p tok99, trivial⟩⟩, Abs.some_p tok19, ⟨⟨trivial, Abs.some_p tok83, trivial⟩, Abs.some_p tok51, trivial⟩⟩, Abs.some_p tok11, ⟨⟨⟨trivial, Abs.some_p tok75, trivial⟩, Abs.none_p, ⟨trivial, Abs.some_p tok107, trivial⟩⟩, Abs.some_p tok27, ⟨⟨trivial, Abs.some_p tok91, trivial⟩, Abs.some_p tok59, trivial⟩⟩⟩⟩, Abs.some_p tok1, ⟨⟨⟨⟨⟨trivial, Abs.some_p tok65, trivial⟩, Abs.some_p tok33, ⟨trivial, Abs.some_p tok97, trivial⟩⟩, Abs.some_p tok17, ⟨⟨trivial, Abs.some_p tok81, trivial⟩, Abs.some_p tok49, trivial⟩⟩, Abs.some_p tok9, ⟨⟨⟨trivial, Abs.some_p tok73, trivial⟩, Abs.none_p, ⟨trivial, Abs.some_p tok105, trivial⟩⟩, Abs.some_p tok25, ⟨⟨trivial, Abs.some_p tok89, trivial⟩, Abs.some_p tok57, trivial⟩⟩⟩, Abs.some_p tok5, ⟨⟨⟨⟨trivial, Abs.some_p tok69, trivial⟩, Abs.some_p tok37, ⟨trivial, Abs.some_p tok101, trivial⟩⟩, Abs.some_p tok21, ⟨⟨trivial, Abs.some_p tok85, trivial⟩, Abs.some_p tok53, trivial⟩⟩, Abs.some_p tok13, ⟨⟨⟨trivial, Abs.some_p tok77, trivial⟩, Abs.some_p tok45, ⟨trivial, Abs.some_p tok109, trivial⟩⟩, Abs.none_p, ⟨⟨trivial, Abs.some_p tok93, trivial⟩, Abs.some_p tok61, trivial⟩⟩⟩⟩⟩, Abs.none_p, ⟨⟨⟨⟨⟨⟨trivial, Abs.some_p tok64, trivial⟩, Abs.some_p tok32, ⟨trivial, Abs.some_p tok96, trivial⟩⟩, Abs.some_p tok16, ⟨trivial, Abs.some_p tok48, trivial⟩⟩, Abs.some_p tok8, ⟨⟨⟨trivial, Abs.some_p tok72, trivial⟩, Abs.some_p tok40, ⟨trivial, Abs.some_p tok104, trivial⟩⟩, Abs.some_p tok24, ⟨⟨trivial, Abs.some_p tok88, trivial⟩, Abs.some_p tok56, trivial⟩⟩⟩, Abs.some_p tok4, ⟨⟨⟨⟨trivial, Abs.some_p tok68, trivial⟩, Abs.some_p tok36, ⟨trivial, Abs.some_p tok100, trivial⟩⟩, Abs.some_p tok20, ⟨⟨trivial, Abs.some_p tok84, trivial⟩, Abs.some_p tok52, trivial⟩⟩, Abs.some_p tok12, ⟨⟨⟨trivial, Abs.some_p tok76, trivial⟩, Abs.some_p tok44, ⟨trivial, Abs.some_p tok108, trivial⟩⟩, Abs.some_p tok28, ⟨⟨trivial, Abs.some_p tok92, trivial⟩, Abs.some_p tok60, trivial⟩⟩⟩⟩, Abs.some_p tok2, ⟨⟨⟨⟨⟨trivial, Abs.some_p tok66, trivial⟩, Abs.some_p tok34, ⟨trivial, Abs.some_p tok98, trivial⟩⟩, Abs.some_p tok18, ⟨⟨trivial, Abs.some_p tok82, trivial⟩, Abs.none_p, trivial⟩⟩, Abs.some_p tok10, ⟨⟨⟨trivial, Abs.some_p tok74, trivial⟩, Abs.some_p tok42, ⟨trivial, Abs.some_p tok106, trivial⟩⟩, Abs.some_p tok26, ⟨⟨trivial, Abs.some_p tok90, trivial⟩, Abs.some_p tok58, trivial⟩⟩⟩, Abs.some_p tok6, ⟨⟨⟨⟨trivial, Abs.some_p tok70, trivial⟩, Abs.none_p, ⟨trivial, Abs.some_p tok102, trivial⟩⟩, Abs.some_p tok22, ⟨⟨trivial, Abs.some_p tok86, trivial⟩, Abs.some_p tok54, trivial⟩⟩, Abs.some_p tok14, ⟨⟨⟨trivial, Abs.some_p tok78, trivial⟩, Abs.some_p tok46, ⟨trivial, Abs.some_p tok110, trivial⟩⟩, Abs.some_p tok30, ⟨trivial, Abs.some_p tok62, trivial⟩⟩⟩⟩⟩⟩
theorem funsOk : ∀ f fn, ctx.funs.get f = some fn → Abs.FunOk Try.prog f fn := Abs.T.allP (p := Abs.FunOk Try.prog) funs (fun j => j) ⟨⟨⟨⟨⟨⟨⟨trivial, Abs.some_p fok63, trivial⟩, Abs.some_p fok31, trivial⟩, Abs.some_p fok15, ⟨trivial, Abs.some_p fok47, trivial⟩⟩, Abs.some_p fok7, ⟨⟨trivial, Abs.some_p fok39, trivial⟩, Abs.some_p fok23, ⟨trivial, Abs.some_p fok55, trivial⟩⟩⟩, Abs.some_p fok3, ⟨⟨⟨trivial, Abs.some_p fok35, trivial⟩, Abs.some_p fok19, ⟨trivial, Abs.some_p fok51, trivial⟩⟩, Abs.some_p fok11, ⟨⟨trivial, Abs.some_p fok43, trivial⟩, Abs.some_p fok27, ⟨trivial, Abs.some_p fok59, trivial⟩⟩⟩⟩, Abs.none_p, ⟨⟨⟨⟨⟨trivial, Abs.some_p fok65, trivial⟩, Abs.some_p fok33, trivial⟩, Abs.some_p fok17, ⟨trivial, Abs.some_p fok49, trivial⟩⟩, Abs.some_p fok9, ⟨⟨trivial, Abs.some_p fok41, trivial⟩, Abs.some_p fok25, ⟨trivial, Abs.some_p fok57, trivial⟩⟩⟩, Abs.some_p fok5, ⟨⟨⟨trivial, Abs.some_p fok37, trivial⟩, Abs.some_p fok21, ⟨trivial, Abs.some_p fok53, trivial⟩⟩, Abs.some_p fok13, ⟨⟨trivial, Abs.some_p fok45, trivial⟩, Abs.some_p fok29, ⟨trivial, Abs.some_p fok61, trivial⟩⟩⟩⟩⟩, Abs.none_p, ⟨⟨⟨⟨⟨⟨trivial, Abs.some_p fok64, trivial⟩, Abs.some_p fok32, trivial⟩, Abs.some_p fok16, ⟨trivial, Abs.some_p fok48, trivial⟩⟩, Abs.some_p fok8, ⟨⟨trivial, Abs.some_p fok40, trivial⟩, Abs.some_p fok24, ⟨trivial, Abs.some_p fok56, trivial⟩⟩⟩, Abs.some_p fok4, ⟨⟨⟨trivial, Abs.some_p fok36, trivial⟩, Abs.some_p fok20, ⟨trivial, Abs.some_p fok52, trivial⟩⟩, Abs.some_p fok12, ⟨⟨trivial, Abs.some_p fok44, trivial⟩, Abs.some_p fok28, ⟨trivial, Abs.some_p fok60, trivial⟩⟩⟩⟩, Abs.none_p, ⟨⟨⟨⟨⟨trivial, Abs.some_p fok66, trivial⟩, Abs.some_p fok34, trivial⟩, Abs.some_p fok18, ⟨trivial, Abs.some_p fok50, trivial⟩⟩, Abs.some_p fok10, ⟨⟨trivial, Abs.some_p fok42, trivial⟩, Abs.some_p fok26, ⟨trivial, Abs.some_p fok58, trivial⟩⟩⟩, Abs.some_p fok6, ⟨⟨⟨trivial, Abs.some_p fok38, trivial⟩, Abs.some_p fok22, ⟨trivial, Abs.some_p fok54, trivial⟩⟩, Abs.some_p fok14, ⟨⟨trivial, Abs.some_p fok46, trivial⟩, Abs.some_p fok30, ⟨trivial, Abs.some_p fok62, trivial⟩⟩⟩⟩⟩⟩
theorem mixed : Try.prog.follows .mixedOrders = true := by kernel_rfl
end Go.Proofs.Ytpioenfglmimgaa
