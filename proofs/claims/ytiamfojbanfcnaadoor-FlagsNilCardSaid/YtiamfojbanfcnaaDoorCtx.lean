import Derived.Test.YtiamfojbanfcnaaDoorProg
import Derived.Test.YtiamfojbanfcnaaDoorS13
import Derived.KernelRfl
namespace Go.Proofs.YtiamfojbanfcnaaDoor
open Go Go.Proofs
def str_0 : String := String.ofList [Char.ofNat 105, Char.ofNat 110, Char.ofNat 116, Char.ofNat 101, Char.ofNat 114, Char.ofNat 110, Char.ofNat 97, Char.ofNat 108, Char.ofNat 47, Char.ofNat 114, Char.ofNat 117, Char.ofNat 110, Char.ofNat 116, Char.ofNat 105, Char.ofNat 109, Char.ofNat 101, Char.ofNat 47, Char.ofNat 109, Char.ofNat 97, Char.ofNat 112, Char.ofNat 115]
def str_1 : String := String.ofList [Char.ofNat 112, Char.ofNat 97, Char.ofNat 116, Char.ofNat 101, Char.ofNat 114, Char.ofNat 110, Char.ofNat 111, Char.ofNat 115, Char.ofNat 116, Char.ofNat 101, Char.ofNat 114, Char.ofNat 47, Char.ofNat 102, Char.ofNat 108, Char.ofNat 97, Char.ofNat 103, Char.ofNat 115]
def ti1 : Abs.TI := ⟨.func #[] #[] false, 1, 8, .nilFunc, false⟩
theorem tok1 : Abs.TyOk Tryd.prog 1 ti1 := Abs.TyOk.mk' (by kernel_rfl) (by kernel_rfl) (by kernel_rfl) (fun fs e => by cases e) (fun h => by cases h)
def ti2 : Abs.TI := ⟨.int .i64, 1, 8, .int .i64 0, false⟩
theorem tok2 : Abs.TyOk Tryd.prog 2 ti2 := Abs.TyOk.mk' (by kernel_rfl) (by kernel_rfl) (by kernel_rfl) (fun fs e => by cases e) (fun h => by cases h)
def ti3 : Abs.TI := ⟨.int .i64, 1, 8, .int .i64 0, false⟩
theorem tok3 : Abs.TyOk Tryd.prog 3 ti3 := Abs.TyOk.mk' (by kernel_rfl) (by kernel_rfl) (by kernel_rfl) (fun fs e => by cases e) (fun h => by cases h)
def ti4 : Abs.TI := ⟨.bool, 1, 1, .bool false, false⟩
theorem tok4 : Abs.TyOk Tryd.prog 4 ti4 := Abs.TyOk.mk' (by kernel_rfl) (by kernel_rfl) (by kernel_rfl) (fun fs e => by cases e) (fun h => by cases h)
def ti5 : Abs.TI := ⟨.int .u8, 1, 1, .int .u8 0, false⟩
theorem tok5 : Abs.TyOk Tryd.prog 5 ti5 := Abs.TyOk.mk' (by kernel_rfl) (by kernel_rfl) (by kernel_rfl) (fun fs e => by cases e) (fun h => by cases h)
def ti6 : Abs.TI := ⟨.int .u8, 1, 1, .int .u8 0, false⟩
theorem tok6 : Abs.TyOk Tryd.prog 6 ti6 := Abs.TyOk.mk' (by kernel_rfl) (by kernel_rfl) (by kernel_rfl) (fun fs e => by cases e) (fun h => by cases h)
def ti7 : Abs.TI := ⟨.struct #[⟨ "x", 2, 0, false, "", "runtime", 0⟩, ⟨ "y", 3, 1, false, "", "runtime", 8⟩, ⟨ "signed", 4, 2, false, "", "runtime", 16⟩, ⟨ "code", 6, 3, false, "", "runtime", 17⟩], 4, 24, .agg #[.int .i64 0, .int .i64 0, .bool false, .int .u8 0], true⟩
theorem tok7 : Abs.TyOk Tryd.prog 7 ti7 := Abs.TyOk.mk' (by kernel_rfl) (by kernel_rfl) (by kernel_rfl) (fun fs e => by cases e; exact ⟨[(0, 1), (1, 1), (2, 1), (3, 1)], by kernel_rfl⟩) (fun _ => ⟨by kernel_rfl, by kernel_rfl⟩)
def ti8 : Abs.TI := ⟨.struct #[⟨ "x", 2, 0, false, "", "runtime", 0⟩, ⟨ "y", 3, 1, false, "", "runtime", 8⟩, ⟨ "signed", 4, 2, false, "", "runtime", 16⟩, ⟨ "code", 6, 3, false, "", "runtime", 17⟩], 4, 24, .agg #[.int .i64 0, .int .i64 0, .bool false, .int .u8 0], false⟩
theorem tok8 : Abs.TyOk Tryd.prog 8 ti8 := Abs.TyOk.mk' (by kernel_rfl) (by kernel_rfl) (by kernel_rfl) (fun fs e => by cases e; exact ⟨[(0, 1), (1, 1), (2, 1), (3, 1)], by kernel_rfl⟩) (fun h => by cases h)
def ti9 : Abs.TI := ⟨.string, 1, 16, .string ⟨#[]⟩, false⟩
theorem tok9 : Abs.TyOk Tryd.prog 9 ti9 := Abs.TyOk.mk' (by kernel_rfl) (by kernel_rfl) (by kernel_rfl) (fun fs e => by cases e) (fun h => by cases h)
def ti10 : Abs.TI := ⟨.string, 1, 16, .string ⟨#[]⟩, false⟩
theorem tok10 : Abs.TyOk Tryd.prog 10 ti10 := Abs.TyOk.mk' (by kernel_rfl) (by kernel_rfl) (by kernel_rfl) (fun fs e => by cases e) (fun h => by cases h)
def ti11 : Abs.TI := ⟨.string, 1, 16, .string ⟨#[]⟩, false⟩
theorem tok11 : Abs.TyOk Tryd.prog 11 ti11 := Abs.TyOk.mk' (by kernel_rfl) (by kernel_rfl) (by kernel_rfl) (fun fs e => by cases e) (fun h => by cases h)
def ti12 : Abs.TI := ⟨.int .u64, 1, 8, .int .u64 0, false⟩
theorem tok12 : Abs.TyOk Tryd.prog 12 ti12 := Abs.TyOk.mk' (by kernel_rfl) (by kernel_rfl) (by kernel_rfl) (fun fs e => by cases e) (fun h => by cases h)
def ti13 : Abs.TI := ⟨.struct #[⟨ "msg", 9, 0, false, "", "runtime", 0⟩, ⟨ "addr", 12, 1, false, "", "runtime", 16⟩], 2, 24, .agg #[.string ⟨#[]⟩, .int .u64 0], false⟩
theorem tok13 : Abs.TyOk Tryd.prog 13 ti13 := Abs.TyOk.mk' (by kernel_rfl) (by kernel_rfl) (by kernel_rfl) (fun fs e => by cases e; exact ⟨[(0, 1), (1, 1)], by kernel_rfl⟩) (fun h => by cases h)
def ti14 : Abs.TI := ⟨.struct #[⟨ "msg", 9, 0, false, "", "runtime", 0⟩, ⟨ "addr", 12, 1, false, "", "runtime", 16⟩], 2, 24, .agg #[.string ⟨#[]⟩, .int .u64 0], false⟩
theorem tok14 : Abs.TyOk Tryd.prog 14 ti14 := Abs.TyOk.mk' (by kernel_rfl) (by kernel_rfl) (by kernel_rfl) (fun fs e => by cases e; exact ⟨[(0, 1), (1, 1)], by kernel_rfl⟩) (fun h => by cases h)
def ti15 : Abs.TI := ⟨.pointer 112, 1, 8, .pointer none, false⟩
theorem tok15 : Abs.TyOk Tryd.prog 15 ti15 := Abs.TyOk.mk' (by kernel_rfl) (by kernel_rfl) (by kernel_rfl) (fun fs e => by cases e) (fun h => by cases h)
def ti16 : Abs.TI := ⟨.pointer 115, 1, 8, .pointer none, false⟩
theorem tok16 : Abs.TyOk Tryd.prog 16 ti16 := Abs.TyOk.mk' (by kernel_rfl) (by kernel_rfl) (by kernel_rfl) (fun fs e => by cases e) (fun h => by cases h)
def ti17 : Abs.TI := ⟨.pointer 123, 1, 8, .pointer none, false⟩
theorem tok17 : Abs.TyOk Tryd.prog 17 ti17 := Abs.TyOk.mk' (by kernel_rfl) (by kernel_rfl) (by kernel_rfl) (fun fs e => by cases e) (fun h => by cases h)
def ti18 : Abs.TI := ⟨.struct #[⟨ "typ", 17, 0, false, "", str_0, 0⟩], 1, 8, .agg #[.pointer none], false⟩
theorem tok18 : Abs.TyOk Tryd.prog 18 ti18 := Abs.TyOk.mk' (by kernel_rfl) (by kernel_rfl) (by kernel_rfl) (fun fs e => by cases e; exact ⟨[(0, 1)], by kernel_rfl⟩) (fun h => by cases h)
def ti19 : Abs.TI := ⟨.struct #[⟨ "typ", 17, 0, false, "", str_0, 0⟩], 1, 8, .agg #[.pointer none], false⟩
theorem tok19 : Abs.TyOk Tryd.prog 19 ti19 := Abs.TyOk.mk' (by kernel_rfl) (by kernel_rfl) (by kernel_rfl) (fun fs e => by cases e; exact ⟨[(0, 1)], by kernel_rfl⟩) (fun h => by cases h)
def ti20 : Abs.TI := ⟨.interface #[], 1, 16, .nilIface, false⟩
theorem tok20 : Abs.TyOk Tryd.prog 20 ti20 := Abs.TyOk.mk' (by kernel_rfl) (by kernel_rfl) (by kernel_rfl) (fun fs e => by cases e) (fun h => by cases h)
def ti21 : Abs.TI := ⟨.int .i32, 1, 4, .int .i32 0, false⟩
theorem tok21 : Abs.TyOk Tryd.prog 21 ti21 := Abs.TyOk.mk' (by kernel_rfl) (by kernel_rfl) (by kernel_rfl) (fun fs e => by cases e) (fun h => by cases h)
def ti22 : Abs.TI := ⟨.slice 4, 1, 24, .slice none 0 0, false⟩
theorem tok22 : Abs.TyOk Tryd.prog 22 ti22 := Abs.TyOk.mk' (by kernel_rfl) (by kernel_rfl) (by kernel_rfl) (fun fs e => by cases e) (fun h => by cases h)
def ti23 : Abs.TI := ⟨.func #[] #[4] false, 1, 8, .nilFunc, false⟩
theorem tok23 : Abs.TyOk Tryd.prog 23 ti23 := Abs.TyOk.mk' (by kernel_rfl) (by kernel_rfl) (by kernel_rfl) (fun fs e => by cases e) (fun h => by cases h)
def ti24 : Abs.TI := ⟨.pointer 64, 1, 8, .pointer none, false⟩
theorem tok24 : Abs.TyOk Tryd.prog 24 ti24 := Abs.TyOk.mk' (by kernel_rfl) (by kernel_rfl) (by kernel_rfl) (fun fs e => by cases e) (fun h => by cases h)
def ti26 : Abs.TI := ⟨.func #[22] #[24, 4] false, 1, 8, .nilFunc, false⟩
theorem tok26 : Abs.TyOk Tryd.prog 26 ti26 := Abs.TyOk.mk' (by kernel_rfl) (by kernel_rfl) (by kernel_rfl) (fun fs e => by cases e) (fun h => by cases h)
def ti27 : Abs.TI := ⟨.func #[24, 22] #[4] false, 1, 8, .nilFunc, false⟩
theorem tok27 : Abs.TyOk Tryd.prog 27 ti27 := Abs.TyOk.mk' (by kernel_rfl) (by kernel_rfl) (by kernel_rfl) (fun fs e => by cases e) (fun h => by cases h)
def ti28 : Abs.TI := ⟨.int .i64, 1, 8, .int .i64 0, false⟩
theorem tok28 : Abs.TyOk Tryd.prog 28 ti28 := Abs.TyOk.mk' (by kernel_rfl) (by kernel_rfl) (by kernel_rfl) (fun fs e => by cases e) (fun h => by cases h)
def ti30 : Abs.TI := ⟨.func #[3] #[3, 28] false, 1, 8, .nilFunc, false⟩
theorem tok30 : Abs.TyOk Tryd.prog 30 ti30 := Abs.TyOk.mk' (by kernel_rfl) (by kernel_rfl) (by kernel_rfl) (fun fs e => by cases e) (fun h => by cases h)
def ti31 : Abs.TI := ⟨.func #[22, 3] #[3] false, 1, 8, .nilFunc, false⟩
theorem tok31 : Abs.TyOk Tryd.prog 31 ti31 := Abs.TyOk.mk' (by kernel_rfl) (by kernel_rfl) (by kernel_rfl) (fun fs e => by cases e) (fun h => by cases h)
def ti32 : Abs.TI := ⟨.func #[] #[3] false, 1, 8, .nilFunc, false⟩
theorem tok32 : Abs.TyOk Tryd.prog 32 ti32 := Abs.TyOk.mk' (by kernel_rfl) (by kernel_rfl) (by kernel_rfl) (fun fs e => by cases e) (fun h => by cases h)
def ti33 : Abs.TI := ⟨.func #[22, 3] #[4] false, 1, 8, .nilFunc, false⟩
theorem tok33 : Abs.TyOk Tryd.prog 33 ti33 := Abs.TyOk.mk' (by kernel_rfl) (by kernel_rfl) (by kernel_rfl) (fun fs e => by cases e) (fun h => by cases h)
def ti34 : Abs.TI := ⟨.func #[3, 4] #[3, 28] false, 1, 8, .nilFunc, false⟩
theorem tok34 : Abs.TyOk Tryd.prog 34 ti34 := Abs.TyOk.mk' (by kernel_rfl) (by kernel_rfl) (by kernel_rfl) (fun fs e => by cases e) (fun h => by cases h)
def ti35 : Abs.TI := ⟨.func #[22, 3, 4] #[3] false, 1, 8, .nilFunc, false⟩
theorem tok35 : Abs.TyOk Tryd.prog 35 ti35 := Abs.TyOk.mk' (by kernel_rfl) (by kernel_rfl) (by kernel_rfl) (fun fs e => by cases e) (fun h => by cases h)
def ti37 : Abs.TI := ⟨.func #[3] #[4, 28] false, 1, 8, .nilFunc, false⟩
theorem tok37 : Abs.TyOk Tryd.prog 37 ti37 := Abs.TyOk.mk' (by kernel_rfl) (by kernel_rfl) (by kernel_rfl) (fun fs e => by cases e) (fun h => by cases h)
def ti38 : Abs.TI := ⟨.func #[3, 4] #[28] false, 1, 8, .nilFunc, false⟩
theorem tok38 : Abs.TyOk Tryd.prog 38 ti38 := Abs.TyOk.mk' (by kernel_rfl) (by kernel_rfl) (by kernel_rfl) (fun fs e => by cases e) (fun h => by cases h)
def ti39 : Abs.TI := ⟨.slice 42, 1, 24, .slice none 0 0, false⟩
theorem tok39 : Abs.TyOk Tryd.prog 39 ti39 := Abs.TyOk.mk' (by kernel_rfl) (by kernel_rfl) (by kernel_rfl) (fun fs e => by cases e) (fun h => by cases h)
def ti40 : Abs.TI := ⟨.func #[] #[24] false, 1, 8, .nilFunc, false⟩
theorem tok40 : Abs.TyOk Tryd.prog 40 ti40 := Abs.TyOk.mk' (by kernel_rfl) (by kernel_rfl) (by kernel_rfl) (fun fs e => by cases e) (fun h => by cases h)
def ti41 : Abs.TI := ⟨.struct #[⟨ "Kind", 5, 0, false, "", "", 0⟩, ⟨ "At", 3, 1, false, "", "", 8⟩, ⟨ "N", 3, 2, false, "", "", 16⟩, ⟨ "X", 3, 3, false, "", "", 24⟩], 4, 32, .agg #[.int .u8 0, .int .i64 0, .int .i64 0, .int .i64 0], true⟩
theorem tok41 : Abs.TyOk Tryd.prog 41 ti41 := Abs.TyOk.mk' (by kernel_rfl) (by kernel_rfl) (by kernel_rfl) (fun fs e => by cases e; exact ⟨[(0, 1), (1, 1), (2, 1), (3, 1)], by kernel_rfl⟩) (fun _ => ⟨by kernel_rfl, by kernel_rfl⟩)
def ti42 : Abs.TI := ⟨.struct #[⟨ "Kind", 5, 0, false, "", "", 0⟩, ⟨ "At", 3, 1, false, "", "", 8⟩, ⟨ "N", 3, 2, false, "", "", 16⟩, ⟨ "X", 3, 3, false, "", "", 24⟩], 4, 32, .agg #[.int .u8 0, .int .i64 0, .int .i64 0, .int .i64 0], true⟩
theorem tok42 : Abs.TyOk Tryd.prog 42 ti42 := Abs.TyOk.mk' (by kernel_rfl) (by kernel_rfl) (by kernel_rfl) (fun fs e => by cases e; exact ⟨[(0, 1), (1, 1), (2, 1), (3, 1)], by kernel_rfl⟩) (fun _ => ⟨by kernel_rfl, by kernel_rfl⟩)
def ti44 : Abs.TI := ⟨.func #[22, 3, 3, 4] #[22, 3] false, 1, 8, .nilFunc, false⟩
theorem tok44 : Abs.TyOk Tryd.prog 44 ti44 := Abs.TyOk.mk' (by kernel_rfl) (by kernel_rfl) (by kernel_rfl) (fun fs e => by cases e) (fun h => by cases h)
def ti45 : Abs.TI := ⟨.func #[3, 3, 4] #[28] false, 1, 8, .nilFunc, false⟩
theorem tok45 : Abs.TyOk Tryd.prog 45 ti45 := Abs.TyOk.mk' (by kernel_rfl) (by kernel_rfl) (by kernel_rfl) (fun fs e => by cases e) (fun h => by cases h)
def ti46 : Abs.TI := ⟨.func #[22, 3, 3] #[22, 3] false, 1, 8, .nilFunc, false⟩
theorem tok46 : Abs.TyOk Tryd.prog 46 ti46 := Abs.TyOk.mk' (by kernel_rfl) (by kernel_rfl) (by kernel_rfl) (fun fs e => by cases e) (fun h => by cases h)
def ti47 : Abs.TI := ⟨.func #[3, 3] #[28] false, 1, 8, .nilFunc, false⟩
theorem tok47 : Abs.TyOk Tryd.prog 47 ti47 := Abs.TyOk.mk' (by kernel_rfl) (by kernel_rfl) (by kernel_rfl) (fun fs e => by cases e) (fun h => by cases h)
def ti48 : Abs.TI := ⟨.func #[22, 3, 3, 3] #[22, 3] false, 1, 8, .nilFunc, false⟩
theorem tok48 : Abs.TyOk Tryd.prog 48 ti48 := Abs.TyOk.mk' (by kernel_rfl) (by kernel_rfl) (by kernel_rfl) (fun fs e => by cases e) (fun h => by cases h)
def ti49 : Abs.TI := ⟨.func #[3, 3, 3] #[28] false, 1, 8, .nilFunc, false⟩
theorem tok49 : Abs.TyOk Tryd.prog 49 ti49 := Abs.TyOk.mk' (by kernel_rfl) (by kernel_rfl) (by kernel_rfl) (fun fs e => by cases e) (fun h => by cases h)
def ti50 : Abs.TI := ⟨.func #[22, 39] #[4] false, 1, 8, .nilFunc, false⟩
theorem tok50 : Abs.TyOk Tryd.prog 50 ti50 := Abs.TyOk.mk' (by kernel_rfl) (by kernel_rfl) (by kernel_rfl) (fun fs e => by cases e) (fun h => by cases h)
def ti51 : Abs.TI := ⟨.slice 56, 1, 24, .slice none 0 0, false⟩
theorem tok51 : Abs.TyOk Tryd.prog 51 ti51 := Abs.TyOk.mk' (by kernel_rfl) (by kernel_rfl) (by kernel_rfl) (fun fs e => by cases e) (fun h => by cases h)
def ti52 : Abs.TI := ⟨.func #[] #[51] false, 1, 8, .nilFunc, false⟩
theorem tok52 : Abs.TyOk Tryd.prog 52 ti52 := Abs.TyOk.mk' (by kernel_rfl) (by kernel_rfl) (by kernel_rfl) (fun fs e => by cases e) (fun h => by cases h)
def ti53 : Abs.TI := ⟨.slice 57, 1, 24, .slice none 0 0, false⟩
theorem tok53 : Abs.TyOk Tryd.prog 53 ti53 := Abs.TyOk.mk' (by kernel_rfl) (by kernel_rfl) (by kernel_rfl) (fun fs e => by cases e) (fun h => by cases h)
def ti54 : Abs.TI := ⟨.func #[22] #[53] false, 1, 8, .nilFunc, false⟩
theorem tok54 : Abs.TyOk Tryd.prog 54 ti54 := Abs.TyOk.mk' (by kernel_rfl) (by kernel_rfl) (by kernel_rfl) (fun fs e => by cases e) (fun h => by cases h)
def ti55 : Abs.TI := ⟨.struct #[⟨ "From", 3, 0, false, "", "", 0⟩, ⟨ "To", 3, 1, false, "", "", 8⟩], 2, 16, .agg #[.int .i64 0, .int .i64 0], true⟩
theorem tok55 : Abs.TyOk Tryd.prog 55 ti55 := Abs.TyOk.mk' (by kernel_rfl) (by kernel_rfl) (by kernel_rfl) (fun fs e => by cases e; exact ⟨[(0, 1), (1, 1)], by kernel_rfl⟩) (fun _ => ⟨by kernel_rfl, by kernel_rfl⟩)
def ti56 : Abs.TI := ⟨.struct #[⟨ "From", 3, 0, false, "", "", 0⟩, ⟨ "To", 3, 1, false, "", "", 8⟩], 2, 16, .agg #[.int .i64 0, .int .i64 0], true⟩
theorem tok56 : Abs.TyOk Tryd.prog 56 ti56 := Abs.TyOk.mk' (by kernel_rfl) (by kernel_rfl) (by kernel_rfl) (fun fs e => by cases e; exact ⟨[(0, 1), (1, 1)], by kernel_rfl⟩) (fun _ => ⟨by kernel_rfl, by kernel_rfl⟩)
def ti57 : Abs.TI := ⟨.array 2 3, 2, 16, .agg #[.int .i64 0, .int .i64 0], false⟩
theorem tok57 : Abs.TyOk Tryd.prog 57 ti57 := Abs.TyOk.mk' (by kernel_rfl) (by kernel_rfl) (by kernel_rfl) (fun fs e => by cases e) (fun h => by cases h)
def ti59 : Abs.TI := ⟨.func #[51, 3, 3] #[51, 28] false, 1, 8, .nilFunc, false⟩
theorem tok59 : Abs.TyOk Tryd.prog 59 ti59 := Abs.TyOk.mk' (by kernel_rfl) (by kernel_rfl) (by kernel_rfl) (fun fs e => by cases e) (fun h => by cases h)
def ti60 : Abs.TI := ⟨.func #[22, 5, 5] #[4] false, 1, 8, .nilFunc, false⟩
theorem tok60 : Abs.TyOk Tryd.prog 60 ti60 := Abs.TyOk.mk' (by kernel_rfl) (by kernel_rfl) (by kernel_rfl) (fun fs e => by cases e) (fun h => by cases h)
def ti61 : Abs.TI := ⟨.int .u64, 1, 8, .int .u64 0, false⟩
theorem tok61 : Abs.TyOk Tryd.prog 61 ti61 := Abs.TyOk.mk' (by kernel_rfl) (by kernel_rfl) (by kernel_rfl) (fun fs e => by cases e) (fun h => by cases h)
def ti62 : Abs.TI := ⟨.array 64 61, 64, 512, .agg #[.int .u64 0, .int .u64 0, .int .u64 0, .int .u64 0, .int .u64 0, .int .u64 0, .int .u64 0, .int .u64 0, .int .u64 0, .int .u64 0, .int .u64 0, .int .u64 0, .int .u64 0, .int .u64 0, .int .u64 0, .int .u64 0, .int .u64 0, .int .u64 0, .int .u64 0, .int .u64 0, .int .u64 0, .int .u64 0, .int .u64 0, .int .u64 0, .int .u64 0, .int .u64 0, .int .u64 0, .int .u64 0, .int .u64 0, .int .u64 0, .int .u64 0, .int .u64 0, .int .u64 0, .int .u64 0, .int .u64 0, .int .u64 0, .int .u64 0, .int .u64 0, .int .u64 0, .int .u64 0, .int .u64 0, .int .u64 0, .int .u64 0, .int .u64 0, .int .u64 0, .int .u64 0, .int .u64 0, .int .u64 0, .int .u64 0, .int .u64 0, .int .u64 0, .int .u64 0, .int .u64 0, .int .u64 0, .int .u64 0, .int .u64 0, .int .u64 0, .int .u64 0, .int .u64 0, .int .u64 0, .int .u64 0, .int .u64 0, .int .u64 0, .int .u64 0], false⟩
theorem tok62 : Abs.TyOk Tryd.prog 62 ti62 := Abs.TyOk.mk' (by kernel_rfl) (by kernel_rfl) (by kernel_rfl) (fun fs e => by cases e) (fun h => by cases h)
def ti63 : Abs.TI := ⟨.struct #[⟨ "n", 3, 0, false, "", str_1, 0⟩, ⟨ "words", 62, 1, false, "", str_1, 8⟩], 65, 520, .agg #[.int .i64 0, .int .u64 0, .int .u64 0, .int .u64 0, .int .u64 0, .int .u64 0, .int .u64 0, .int .u64 0, .int .u64 0, .int .u64 0, .int .u64 0, .int .u64 0, .int .u64 0, .int .u64 0, .int .u64 0, .int .u64 0, .int .u64 0, .int .u64 0, .int .u64 0, .int .u64 0, .int .u64 0, .int .u64 0, .int .u64 0, .int .u64 0, .int .u64 0, .int .u64 0, .int .u64 0, .int .u64 0, .int .u64 0, .int .u64 0, .int .u64 0, .int .u64 0, .int .u64 0, .int .u64 0, .int .u64 0, .int .u64 0, .int .u64 0, .int .u64 0, .int .u64 0, .int .u64 0, .int .u64 0, .int .u64 0, .int .u64 0, .int .u64 0, .int .u64 0, .int .u64 0, .int .u64 0, .int .u64 0, .int .u64 0, .int .u64 0, .int .u64 0, .int .u64 0, .int .u64 0, .int .u64 0, .int .u64 0, .int .u64 0, .int .u64 0, .int .u64 0, .int .u64 0, .int .u64 0, .int .u64 0, .int .u64 0, .int .u64 0, .int .u64 0, .int .u64 0], true⟩
theorem tok63 : Abs.TyOk Tryd.prog 63 ti63 := Abs.TyOk.mk' (by kernel_rfl) (by kernel_rfl) (by kernel_rfl) (fun fs e => by cases e; exact ⟨[(0, 1), (1, 64)], by kernel_rfl⟩) (fun _ => ⟨by kernel_rfl, by kernel_rfl⟩)
def ti64 : Abs.TI := ⟨.struct #[⟨ "n", 3, 0, false, "", str_1, 0⟩, ⟨ "words", 62, 1, false, "", str_1, 8⟩], 65, 520, .agg #[.int .i64 0, .int .u64 0, .int .u64 0, .int .u64 0, .int .u64 0, .int .u64 0, .int .u64 0, .int .u64 0, .int .u64 0, .int .u64 0, .int .u64 0, .int .u64 0, .int .u64 0, .int .u64 0, .int .u64 0, .int .u64 0, .int .u64 0, .int .u64 0, .int .u64 0, .int .u64 0, .int .u64 0, .int .u64 0, .int .u64 0, .int .u64 0, .int .u64 0, .int .u64 0, .int .u64 0, .int .u64 0, .int .u64 0, .int .u64 0, .int .u64 0, .int .u64 0, .int .u64 0, .int .u64 0, .int .u64 0, .int .u64 0, .int .u64 0, .int .u64 0, .int .u64 0, .int .u64 0, .int .u64 0, .int .u64 0, .int .u64 0, .int .u64 0, .int .u64 0, .int .u64 0, .int .u64 0, .int .u64 0, .int .u64 0, .int .u64 0, .int .u64 0, .int .u64 0, .int .u64 0, .int .u64 0, .int .u64 0, .int .u64 0, .int .u64 0, .int .u64 0, .int .u64 0, .int .u64 0, .int .u64 0, .int .u64 0, .int .u64 0, .int .u64 0, .int .u64 0], true⟩
theorem tok64 : Abs.TyOk Tryd.prog 64 ti64 := Abs.TyOk.mk' (by kernel_rfl) (by kernel_rfl) (by kernel_rfl) (fun fs e => by cases e; exact ⟨[(0, 1), (1, 64)], by kernel_rfl⟩) (fun _ => ⟨by kernel_rfl, by kernel_rfl⟩)
def ti65 : Abs.TI := ⟨.func #[3, 3] #[4] false, 1, 8, .nilFunc, false⟩
theorem tok65 : Abs.TyOk Tryd.prog 65 ti65 := Abs.TyOk.mk' (by kernel_rfl) (by kernel_rfl) (by kernel_rfl) (fun fs e => by cases e) (fun h => by cases h)
def ti67 : Abs.TI := ⟨.func #[3] #[24, 28] false, 1, 8, .nilFunc, false⟩
theorem tok67 : Abs.TyOk Tryd.prog 67 ti67 := Abs.TyOk.mk' (by kernel_rfl) (by kernel_rfl) (by kernel_rfl) (fun fs e => by cases e) (fun h => by cases h)
def ti68 : Abs.TI := ⟨.func #[73] #[22] true, 1, 8, .nilFunc, false⟩
theorem tok68 : Abs.TyOk Tryd.prog 68 ti68 := Abs.TyOk.mk' (by kernel_rfl) (by kernel_rfl) (by kernel_rfl) (fun fs e => by cases e) (fun h => by cases h)
def ti69 : Abs.TI := ⟨.func #[3] #[3] false, 1, 8, .nilFunc, false⟩
theorem tok69 : Abs.TyOk Tryd.prog 69 ti69 := Abs.TyOk.mk' (by kernel_rfl) (by kernel_rfl) (by kernel_rfl) (fun fs e => by cases e) (fun h => by cases h)
def ti70 : Abs.TI := ⟨.func #[61] #[3] false, 1, 8, .nilFunc, false⟩
theorem tok70 : Abs.TyOk Tryd.prog 70 ti70 := Abs.TyOk.mk' (by kernel_rfl) (by kernel_rfl) (by kernel_rfl) (fun fs e => by cases e) (fun h => by cases h)
def ti71 : Abs.TI := ⟨.func #[3, 3, 4] #[] false, 1, 8, .nilFunc, false⟩
theorem tok71 : Abs.TyOk Tryd.prog 71 ti71 := Abs.TyOk.mk' (by kernel_rfl) (by kernel_rfl) (by kernel_rfl) (fun fs e => by cases e) (fun h => by cases h)
def ti72 : Abs.TI := ⟨.func #[3, 24, 3, 3] #[] false, 1, 8, .nilFunc, false⟩
theorem tok72 : Abs.TyOk Tryd.prog 72 ti72 := Abs.TyOk.mk' (by kernel_rfl) (by kernel_rfl) (by kernel_rfl) (fun fs e => by cases e) (fun h => by cases h)
def ti73 : Abs.TI := ⟨.slice 3, 1, 24, .slice none 0 0, false⟩
theorem tok73 : Abs.TyOk Tryd.prog 73 ti73 := Abs.TyOk.mk' (by kernel_rfl) (by kernel_rfl) (by kernel_rfl) (fun fs e => by cases e) (fun h => by cases h)
def ti74 : Abs.TI := ⟨.func #[73] #[51, 28] false, 1, 8, .nilFunc, false⟩
theorem tok74 : Abs.TyOk Tryd.prog 74 ti74 := Abs.TyOk.mk' (by kernel_rfl) (by kernel_rfl) (by kernel_rfl) (fun fs e => by cases e) (fun h => by cases h)
def ti75 : Abs.TI := ⟨.func #[51, 3, 3] #[28] false, 1, 8, .nilFunc, false⟩
theorem tok75 : Abs.TyOk Tryd.prog 75 ti75 := Abs.TyOk.mk' (by kernel_rfl) (by kernel_rfl) (by kernel_rfl) (fun fs e => by cases e) (fun h => by cases h)
def ti76 : Abs.TI := ⟨.func #[51, 3, 3] #[51] false, 1, 8, .nilFunc, false⟩
theorem tok76 : Abs.TyOk Tryd.prog 76 ti76 := Abs.TyOk.mk' (by kernel_rfl) (by kernel_rfl) (by kernel_rfl) (fun fs e => by cases e) (fun h => by cases h)
def ti77 : Abs.TI := ⟨.func #[51] #[51, 28] false, 1, 8, .nilFunc, false⟩
theorem tok77 : Abs.TyOk Tryd.prog 77 ti77 := Abs.TyOk.mk' (by kernel_rfl) (by kernel_rfl) (by kernel_rfl) (fun fs e => by cases e) (fun h => by cases h)
def ti78 : Abs.TI := ⟨.func #[3] #[61] false, 1, 8, .nilFunc, false⟩
theorem tok78 : Abs.TyOk Tryd.prog 78 ti78 := Abs.TyOk.mk' (by kernel_rfl) (by kernel_rfl) (by kernel_rfl) (fun fs e => by cases e) (fun h => by cases h)
def ti79 : Abs.TI := ⟨.int .u64, 1, 8, .int .u64 0, false⟩
theorem tok79 : Abs.TyOk Tryd.prog 79 ti79 := Abs.TyOk.mk' (by kernel_rfl) (by kernel_rfl) (by kernel_rfl) (fun fs e => by cases e) (fun h => by cases h)
def ti80 : Abs.TI := ⟨.array 64 5, 64, 64, .agg #[.int .u8 0, .int .u8 0, .int .u8 0, .int .u8 0, .int .u8 0, .int .u8 0, .int .u8 0, .int .u8 0, .int .u8 0, .int .u8 0, .int .u8 0, .int .u8 0, .int .u8 0, .int .u8 0, .int .u8 0, .int .u8 0, .int .u8 0, .int .u8 0, .int .u8 0, .int .u8 0, .int .u8 0, .int .u8 0, .int .u8 0, .int .u8 0, .int .u8 0, .int .u8 0, .int .u8 0, .int .u8 0, .int .u8 0, .int .u8 0, .int .u8 0, .int .u8 0, .int .u8 0, .int .u8 0, .int .u8 0, .int .u8 0, .int .u8 0, .int .u8 0, .int .u8 0, .int .u8 0, .int .u8 0, .int .u8 0, .int .u8 0, .int .u8 0, .int .u8 0, .int .u8 0, .int .u8 0, .int .u8 0, .int .u8 0, .int .u8 0, .int .u8 0, .int .u8 0, .int .u8 0, .int .u8 0, .int .u8 0, .int .u8 0, .int .u8 0, .int .u8 0, .int .u8 0, .int .u8 0, .int .u8 0, .int .u8 0, .int .u8 0, .int .u8 0], false⟩
theorem tok80 : Abs.TyOk Tryd.prog 80 ti80 := Abs.TyOk.mk' (by kernel_rfl) (by kernel_rfl) (by kernel_rfl) (fun fs e => by cases e) (fun h => by cases h)
def ti81 : Abs.TI := ⟨.func #[3, 3, 61] #[] false, 1, 8, .nilFunc, false⟩
theorem tok81 : Abs.TyOk Tryd.prog 81 ti81 := Abs.TyOk.mk' (by kernel_rfl) (by kernel_rfl) (by kernel_rfl) (fun fs e => by cases e) (fun h => by cases h)
def ti82 : Abs.TI := ⟨.slice 61, 1, 24, .slice none 0 0, false⟩
theorem tok82 : Abs.TyOk Tryd.prog 82 ti82 := Abs.TyOk.mk' (by kernel_rfl) (by kernel_rfl) (by kernel_rfl) (fun fs e => by cases e) (fun h => by cases h)
def ti83 : Abs.TI := ⟨.func #[73] #[73] false, 1, 8, .nilFunc, false⟩
theorem tok83 : Abs.TyOk Tryd.prog 83 ti83 := Abs.TyOk.mk' (by kernel_rfl) (by kernel_rfl) (by kernel_rfl) (fun fs e => by cases e) (fun h => by cases h)
def ti84 : Abs.TI := ⟨.func #[73] #[] false, 1, 8, .nilFunc, false⟩
theorem tok84 : Abs.TyOk Tryd.prog 84 ti84 := Abs.TyOk.mk' (by kernel_rfl) (by kernel_rfl) (by kernel_rfl) (fun fs e => by cases e) (fun h => by cases h)
def ti85 : Abs.TI := ⟨.func #[51] #[28] false, 1, 8, .nilFunc, false⟩
theorem tok85 : Abs.TyOk Tryd.prog 85 ti85 := Abs.TyOk.mk' (by kernel_rfl) (by kernel_rfl) (by kernel_rfl) (fun fs e => by cases e) (fun h => by cases h)
def ti86 : Abs.TI := ⟨.func #[51] #[51] false, 1, 8, .nilFunc, false⟩
theorem tok86 : Abs.TyOk Tryd.prog 86 ti86 := Abs.TyOk.mk' (by kernel_rfl) (by kernel_rfl) (by kernel_rfl) (fun fs e => by cases e) (fun h => by cases h)
def ti87 : Abs.TI := ⟨.pointer 61, 1, 8, .pointer none, false⟩
theorem tok87 : Abs.TyOk Tryd.prog 87 ti87 := Abs.TyOk.mk' (by kernel_rfl) (by kernel_rfl) (by kernel_rfl) (fun fs e => by cases e) (fun h => by cases h)
def ti88 : Abs.TI := ⟨.func #[73, 3, 3, 3] #[] false, 1, 8, .nilFunc, false⟩
theorem tok88 : Abs.TyOk Tryd.prog 88 ti88 := Abs.TyOk.mk' (by kernel_rfl) (by kernel_rfl) (by kernel_rfl) (fun fs e => by cases e) (fun h => by cases h)
def ti89 : Abs.TI := ⟨.func #[79] #[3] false, 1, 8, .nilFunc, false⟩
theorem tok89 : Abs.TyOk Tryd.prog 89 ti89 := Abs.TyOk.mk' (by kernel_rfl) (by kernel_rfl) (by kernel_rfl) (fun fs e => by cases e) (fun h => by cases h)
def ti90 : Abs.TI := ⟨.func #[73, 3, 3] #[] false, 1, 8, .nilFunc, false⟩
theorem tok90 : Abs.TyOk Tryd.prog 90 ti90 := Abs.TyOk.mk' (by kernel_rfl) (by kernel_rfl) (by kernel_rfl) (fun fs e => by cases e) (fun h => by cases h)
def ti91 : Abs.TI := ⟨.int .i64, 1, 8, .int .i64 0, false⟩
theorem tok91 : Abs.TyOk Tryd.prog 91 ti91 := Abs.TyOk.mk' (by kernel_rfl) (by kernel_rfl) (by kernel_rfl) (fun fs e => by cases e) (fun h => by cases h)
def ti93 : Abs.TI := ⟨.func #[73, 3, 3] #[3, 91] false, 1, 8, .nilFunc, false⟩
theorem tok93 : Abs.TyOk Tryd.prog 93 ti93 := Abs.TyOk.mk' (by kernel_rfl) (by kernel_rfl) (by kernel_rfl) (fun fs e => by cases e) (fun h => by cases h)
def ti94 : Abs.TI := ⟨.func #[73, 3, 3] #[4] false, 1, 8, .nilFunc, false⟩
theorem tok94 : Abs.TyOk Tryd.prog 94 ti94 := Abs.TyOk.mk' (by kernel_rfl) (by kernel_rfl) (by kernel_rfl) (fun fs e => by cases e) (fun h => by cases h)
def ti95 : Abs.TI := ⟨.func #[73, 3, 3, 3] #[3] false, 1, 8, .nilFunc, false⟩
theorem tok95 : Abs.TyOk Tryd.prog 95 ti95 := Abs.TyOk.mk' (by kernel_rfl) (by kernel_rfl) (by kernel_rfl) (fun fs e => by cases e) (fun h => by cases h)
def ti97 : Abs.TI := ⟨.func #[73, 3, 3, 3] #[3, 4] false, 1, 8, .nilFunc, false⟩
theorem tok97 : Abs.TyOk Tryd.prog 97 ti97 := Abs.TyOk.mk' (by kernel_rfl) (by kernel_rfl) (by kernel_rfl) (fun fs e => by cases e) (fun h => by cases h)
def ti98 : Abs.TI := ⟨.func #[99] #[3] false, 1, 8, .nilFunc, false⟩
theorem tok98 : Abs.TyOk Tryd.prog 98 ti98 := Abs.TyOk.mk' (by kernel_rfl) (by kernel_rfl) (by kernel_rfl) (fun fs e => by cases e) (fun h => by cases h)
def ti99 : Abs.TI := ⟨.int .u32, 1, 4, .int .u32 0, false⟩
theorem tok99 : Abs.TyOk Tryd.prog 99 ti99 := Abs.TyOk.mk' (by kernel_rfl) (by kernel_rfl) (by kernel_rfl) (fun fs e => by cases e) (fun h => by cases h)
def ti100 : Abs.TI := ⟨.int .u64, 1, 8, .int .u64 0, false⟩
theorem tok100 : Abs.TyOk Tryd.prog 100 ti100 := Abs.TyOk.mk' (by kernel_rfl) (by kernel_rfl) (by kernel_rfl) (fun fs e => by cases e) (fun h => by cases h)
def ti101 : Abs.TI := ⟨.func #[3] #[79] false, 1, 8, .nilFunc, false⟩
theorem tok101 : Abs.TyOk Tryd.prog 101 ti101 := Abs.TyOk.mk' (by kernel_rfl) (by kernel_rfl) (by kernel_rfl) (fun fs e => by cases e) (fun h => by cases h)
def ti102 : Abs.TI := ⟨.func #[] #[61] false, 1, 8, .nilFunc, false⟩
theorem tok102 : Abs.TyOk Tryd.prog 102 ti102 := Abs.TyOk.mk' (by kernel_rfl) (by kernel_rfl) (by kernel_rfl) (fun fs e => by cases e) (fun h => by cases h)
def ti103 : Abs.TI := ⟨.func #[73, 3, 104] #[3] false, 1, 8, .nilFunc, false⟩
theorem tok103 : Abs.TyOk Tryd.prog 103 ti103 := Abs.TyOk.mk' (by kernel_rfl) (by kernel_rfl) (by kernel_rfl) (fun fs e => by cases e) (fun h => by cases h)
def ti104 : Abs.TI := ⟨.pointer 3, 1, 8, .pointer none, false⟩
theorem tok104 : Abs.TyOk Tryd.prog 104 ti104 := Abs.TyOk.mk' (by kernel_rfl) (by kernel_rfl) (by kernel_rfl) (fun fs e => by cases e) (fun h => by cases h)
def ti105 : Abs.TI := ⟨.func #[73, 3, 3, 3, 104] #[3] false, 1, 8, .nilFunc, false⟩
theorem tok105 : Abs.TyOk Tryd.prog 105 ti105 := Abs.TyOk.mk' (by kernel_rfl) (by kernel_rfl) (by kernel_rfl) (fun fs e => by cases e) (fun h => by cases h)
def ti106 : Abs.TI := ⟨.func #[3] #[4] false, 1, 8, .nilFunc, false⟩
theorem tok106 : Abs.TyOk Tryd.prog 106 ti106 := Abs.TyOk.mk' (by kernel_rfl) (by kernel_rfl) (by kernel_rfl) (fun fs e => by cases e) (fun h => by cases h)
def ti107 : Abs.TI := ⟨.pointer 100, 1, 8, .pointer none, false⟩
theorem tok107 : Abs.TyOk Tryd.prog 107 ti107 := Abs.TyOk.mk' (by kernel_rfl) (by kernel_rfl) (by kernel_rfl) (fun fs e => by cases e) (fun h => by cases h)
def ti109 : Abs.TI := ⟨.func #[73, 3, 3, 104] #[3, 3] false, 1, 8, .nilFunc, false⟩
theorem tok109 : Abs.TyOk Tryd.prog 109 ti109 := Abs.TyOk.mk' (by kernel_rfl) (by kernel_rfl) (by kernel_rfl) (fun fs e => by cases e) (fun h => by cases h)
def ti110 : Abs.TI := ⟨.func #[] #[9] false, 1, 8, .nilFunc, false⟩
theorem tok110 : Abs.TyOk Tryd.prog 110 ti110 := Abs.TyOk.mk' (by kernel_rfl) (by kernel_rfl) (by kernel_rfl) (fun fs e => by cases e) (fun h => by cases h)
def ti111 : Abs.TI := ⟨.struct #[⟨ "_interface", 17, 0, false, "", "runtime", 0⟩, ⟨ "concrete", 17, 1, false, "", "runtime", 8⟩, ⟨ "asserted", 17, 2, false, "", "runtime", 16⟩, ⟨ "missingMethod", 9, 3, false, "", "runtime", 24⟩], 4, 40, .agg #[.pointer none, .pointer none, .pointer none, .string ⟨#[]⟩], false⟩
theorem tok111 : Abs.TyOk Tryd.prog 111 ti111 := Abs.TyOk.mk' (by kernel_rfl) (by kernel_rfl) (by kernel_rfl) (fun fs e => by cases e; exact ⟨[(0, 1), (1, 1), (2, 1), (3, 1)], by kernel_rfl⟩) (fun h => by cases h)
def ti112 : Abs.TI := ⟨.struct #[⟨ "_interface", 17, 0, false, "", "runtime", 0⟩, ⟨ "concrete", 17, 1, false, "", "runtime", 8⟩, ⟨ "asserted", 17, 2, false, "", "runtime", 16⟩, ⟨ "missingMethod", 9, 3, false, "", "runtime", 24⟩], 4, 40, .agg #[.pointer none, .pointer none, .pointer none, .string ⟨#[]⟩], false⟩
theorem tok112 : Abs.TyOk Tryd.prog 112 ti112 := Abs.TyOk.mk' (by kernel_rfl) (by kernel_rfl) (by kernel_rfl) (fun fs e => by cases e; exact ⟨[(0, 1), (1, 1), (2, 1), (3, 1)], by kernel_rfl⟩) (fun h => by cases h)
def ti113 : Abs.TI := ⟨.array 0 16, 0, 0, .agg #[], false⟩
theorem tok113 : Abs.TyOk Tryd.prog 113 ti113 := Abs.TyOk.mk' (by kernel_rfl) (by kernel_rfl) (by kernel_rfl) (fun fs e => by cases e) (fun h => by cases h)
def ti114 : Abs.TI := ⟨.struct #[⟨ "_", 113, 0, false, "", "runtime", 0⟩], 0, 0, .agg #[], false⟩
theorem tok114 : Abs.TyOk Tryd.prog 114 ti114 := Abs.TyOk.mk' (by kernel_rfl) (by kernel_rfl) (by kernel_rfl) (fun fs e => by cases e; exact ⟨[(0, 0)], by kernel_rfl⟩) (fun h => by cases h)
def ti115 : Abs.TI := ⟨.struct #[⟨ "_", 113, 0, false, "", "runtime", 0⟩], 0, 0, .agg #[], false⟩
theorem tok115 : Abs.TyOk Tryd.prog 115 ti115 := Abs.TyOk.mk' (by kernel_rfl) (by kernel_rfl) (by kernel_rfl) (fun fs e => by cases e; exact ⟨[(0, 0)], by kernel_rfl⟩) (fun h => by cases h)
def ti116 : Abs.TI := ⟨.int .u8, 1, 1, .int .u8 0, false⟩
theorem tok116 : Abs.TyOk Tryd.prog 116 ti116 := Abs.TyOk.mk' (by kernel_rfl) (by kernel_rfl) (by kernel_rfl) (fun fs e => by cases e) (fun h => by cases h)
def ti117 : Abs.TI := ⟨.int .u8, 1, 1, .int .u8 0, false⟩
theorem tok117 : Abs.TyOk Tryd.prog 117 ti117 := Abs.TyOk.mk' (by kernel_rfl) (by kernel_rfl) (by kernel_rfl) (fun fs e => by cases e) (fun h => by cases h)
def ti118 : Abs.TI := ⟨.func #[124, 124] #[4] false, 1, 8, .nilFunc, false⟩
theorem tok118 : Abs.TyOk Tryd.prog 118 ti118 := Abs.TyOk.mk' (by kernel_rfl) (by kernel_rfl) (by kernel_rfl) (fun fs e => by cases e) (fun h => by cases h)
def ti119 : Abs.TI := ⟨.pointer 5, 1, 8, .pointer none, false⟩
theorem tok119 : Abs.TyOk Tryd.prog 119 ti119 := Abs.TyOk.mk' (by kernel_rfl) (by kernel_rfl) (by kernel_rfl) (fun fs e => by cases e) (fun h => by cases h)
def ti120 : Abs.TI := ⟨.int .i32, 1, 4, .int .i32 0, false⟩
theorem tok120 : Abs.TyOk Tryd.prog 120 ti120 := Abs.TyOk.mk' (by kernel_rfl) (by kernel_rfl) (by kernel_rfl) (fun fs e => by cases e) (fun h => by cases h)
def ti121 : Abs.TI := ⟨.int .i32, 1, 4, .int .i32 0, false⟩
theorem tok121 : Abs.TyOk Tryd.prog 121 ti121 := Abs.TyOk.mk' (by kernel_rfl) (by kernel_rfl) (by kernel_rfl) (fun fs e => by cases e) (fun h => by cases h)
def ti122 : Abs.TI := ⟨.struct #[⟨ "Size_", 12, 0, false, "", "", 0⟩, ⟨ "PtrBytes", 12, 1, false, "", "", 8⟩, ⟨ "Hash", 99, 2, false, "", "", 16⟩, ⟨ "TFlag", 116, 3, false, "", "", 20⟩, ⟨ "Align_", 5, 4, false, "", "", 21⟩, ⟨ "FieldAlign_", 5, 5, false, "", "", 22⟩, ⟨ "Kind_", 117, 6, false, "", "", 23⟩, ⟨ "Equal", 118, 7, false, "", "", 24⟩, ⟨ "GCData", 119, 8, false, "", "", 32⟩, ⟨ "Str", 120, 9, false, "", "", 40⟩, ⟨ "PtrToThis", 121, 10, false, "", "", 44⟩], 11, 48, .agg #[.int .u64 0, .int .u64 0, .int .u32 0, .int .u8 0, .int .u8 0, .int .u8 0, .int .u8 0, .nilFunc, .pointer none, .int .i32 0, .int .i32 0], false⟩
theorem tok122 : Abs.TyOk Tryd.prog 122 ti122 := Abs.TyOk.mk' (by kernel_rfl) (by kernel_rfl) (by kernel_rfl) (fun fs e => by cases e; exact ⟨[(0, 1), (1, 1), (2, 1), (3, 1), (4, 1), (5, 1), (6, 1), (7, 1), (8, 1), (9, 1), (10, 1)], by kernel_rfl⟩) (fun h => by cases h)
def ti123 : Abs.TI := ⟨.struct #[⟨ "Size_", 12, 0, false, "", "", 0⟩, ⟨ "PtrBytes", 12, 1, false, "", "", 8⟩, ⟨ "Hash", 99, 2, false, "", "", 16⟩, ⟨ "TFlag", 116, 3, false, "", "", 20⟩, ⟨ "Align_", 5, 4, false, "", "", 21⟩, ⟨ "FieldAlign_", 5, 5, false, "", "", 22⟩, ⟨ "Kind_", 117, 6, false, "", "", 23⟩, ⟨ "Equal", 118, 7, false, "", "", 24⟩, ⟨ "GCData", 119, 8, false, "", "", 32⟩, ⟨ "Str", 120, 9, false, "", "", 40⟩, ⟨ "PtrToThis", 121, 10, false, "", "", 44⟩], 11, 48, .agg #[.int .u64 0, .int .u64 0, .int .u32 0, .int .u8 0, .int .u8 0, .int .u8 0, .int .u8 0, .nilFunc, .pointer none, .int .i32 0, .int .i32 0], false⟩
theorem tok123 : Abs.TyOk Tryd.prog 123 ti123 := Abs.TyOk.mk' (by kernel_rfl) (by kernel_rfl) (by kernel_rfl) (fun fs e => by cases e; exact ⟨[(0, 1), (1, 1), (2, 1), (3, 1), (4, 1), (5, 1), (6, 1), (7, 1), (8, 1), (9, 1), (10, 1)], by kernel_rfl⟩) (fun h => by cases h)
def ti124 : Abs.TI := ⟨.unsafePointer, 1, 8, .pointer none, false⟩
theorem tok124 : Abs.TyOk Tryd.prog 124 ti124 := Abs.TyOk.mk' (by kernel_rfl) (by kernel_rfl) (by kernel_rfl) (fun fs e => by cases e) (fun h => by cases h)
theorem fok3 : Abs.FunOk Tryd.prog 3 Tryd.f3 := Abs.FunOk.mk' Tryd.func3 (by kernel_rfl) (by kernel_rfl)
theorem fok4 : Abs.FunOk Tryd.prog 4 Tryd.f4 := Abs.FunOk.mk' Tryd.func4 (by kernel_rfl) (by kernel_rfl)
theorem fok5 : Abs.FunOk Tryd.prog 5 Tryd.f5 := Abs.FunOk.mk' Tryd.func5 (by kernel_rfl) (by kernel_rfl)
theorem fok6 : Abs.FunOk Tryd.prog 6 Tryd.f6 := Abs.FunOk.mk' Tryd.func6 (by kernel_rfl) (by kernel_rfl)
theorem fok7 : Abs.FunOk Tryd.prog 7 Tryd.f7 := Abs.FunOk.mk' Tryd.func7 (by kernel_rfl) (by kernel_rfl)
theorem fok8 : Abs.FunOk Tryd.prog 8 Tryd.f8 := Abs.FunOk.mk' Tryd.func8 (by kernel_rfl) (by kernel_rfl)
theorem fok9 : Abs.FunOk Tryd.prog 9 Tryd.f9 := Abs.FunOk.mk' Tryd.func9 (by kernel_rfl) (by kernel_rfl)
theorem fok10 : Abs.FunOk Tryd.prog 10 Tryd.f10 := Abs.FunOk.mk' Tryd.func10 (by kernel_rfl) (by kernel_rfl)
theorem fok11 : Abs.FunOk Tryd.prog 11 Tryd.f11 := Abs.FunOk.mk' Tryd.func11 (by kernel_rfl) (by kernel_rfl)
theorem fok12 : Abs.FunOk Tryd.prog 12 Tryd.f12 := Abs.FunOk.mk' Tryd.func12 (by kernel_rfl) (by kernel_rfl)
theorem fok13 : Abs.FunOk Tryd.prog 13 Tryd.f13 := Abs.FunOk.mk' Tryd.func13 (by kernel_rfl) (by kernel_rfl)
theorem fok14 : Abs.FunOk Tryd.prog 14 Tryd.f14 := Abs.FunOk.mk' Tryd.func14 (by kernel_rfl) (by kernel_rfl)
theorem fok15 : Abs.FunOk Tryd.prog 15 Tryd.f15 := Abs.FunOk.mk' Tryd.func15 (by kernel_rfl) (by kernel_rfl)
theorem fok16 : Abs.FunOk Tryd.prog 16 Tryd.f16 := Abs.FunOk.mk' Tryd.func16 (by kernel_rfl) (by kernel_rfl)
theorem fok17 : Abs.FunOk Tryd.prog 17 Tryd.f17 := Abs.FunOk.mk' Tryd.func17 (by kernel_rfl) (by kernel_rfl)
theorem fok18 : Abs.FunOk Tryd.prog 18 Tryd.f18 := Abs.FunOk.mk' Tryd.func18 (by kernel_rfl) (by kernel_rfl)
theorem fok19 : Abs.FunOk Tryd.prog 19 Tryd.f19 := Abs.FunOk.mk' Tryd.func19 (by kernel_rfl) (by kernel_rfl)
theorem fok20 : Abs.FunOk Tryd.prog 20 Tryd.f20 := Abs.FunOk.mk' Tryd.func20 (by kernel_rfl) (by kernel_rfl)
theorem fok21 : Abs.FunOk Tryd.prog 21 Tryd.f21 := Abs.FunOk.mk' Tryd.func21 (by kernel_rfl) (by kernel_rfl)
theorem fok22 : Abs.FunOk Tryd.prog 22 Tryd.f22 := Abs.FunOk.mk' Tryd.func22 (by kernel_rfl) (by kernel_rfl)
theorem fok23 : Abs.FunOk Tryd.prog 23 Tryd.f23 := Abs.FunOk.mk' Tryd.func23 (by kernel_rfl) (by kernel_rfl)
theorem fok24 : Abs.FunOk Tryd.prog 24 Tryd.f24 := Abs.FunOk.mk' Tryd.func24 (by kernel_rfl) (by kernel_rfl)
theorem fok25 : Abs.FunOk Tryd.prog 25 Tryd.f25 := Abs.FunOk.mk' Tryd.func25 (by kernel_rfl) (by kernel_rfl)
theorem fok26 : Abs.FunOk Tryd.prog 26 Tryd.f26 := Abs.FunOk.mk' Tryd.func26 (by kernel_rfl) (by kernel_rfl)
theorem fok27 : Abs.FunOk Tryd.prog 27 Tryd.f27 := Abs.FunOk.mk' Tryd.func27 (by kernel_rfl) (by kernel_rfl)
theorem fok28 : Abs.FunOk Tryd.prog 28 Tryd.f28 := Abs.FunOk.mk' Tryd.func28 (by kernel_rfl) (by kernel_rfl)
theorem fok29 : Abs.FunOk Tryd.prog 29 Tryd.f29 := Abs.FunOk.mk' Tryd.func29 (by kernel_rfl) (by kernel_rfl)
theorem fok30 : Abs.FunOk Tryd.prog 30 Tryd.f30 := Abs.FunOk.mk' Tryd.func30 (by kernel_rfl) (by kernel_rfl)
theorem fok31 : Abs.FunOk Tryd.prog 31 Tryd.f31 := Abs.FunOk.mk' Tryd.func31 (by kernel_rfl) (by kernel_rfl)
theorem fok32 : Abs.FunOk Tryd.prog 32 Tryd.f32 := Abs.FunOk.mk' Tryd.func32 (by kernel_rfl) (by kernel_rfl)
theorem fok33 : Abs.FunOk Tryd.prog 33 Tryd.f33 := Abs.FunOk.mk' Tryd.func33 (by kernel_rfl) (by kernel_rfl)
theorem fok34 : Abs.FunOk Tryd.prog 34 Tryd.f34 := Abs.FunOk.mk' Tryd.func34 (by kernel_rfl) (by kernel_rfl)
theorem fok35 : Abs.FunOk Tryd.prog 35 Tryd.f35 := Abs.FunOk.mk' Tryd.func35 (by kernel_rfl) (by kernel_rfl)
theorem fok36 : Abs.FunOk Tryd.prog 36 Tryd.f36 := Abs.FunOk.mk' Tryd.func36 (by kernel_rfl) (by kernel_rfl)
theorem fok37 : Abs.FunOk Tryd.prog 37 Tryd.f37 := Abs.FunOk.mk' Tryd.func37 (by kernel_rfl) (by kernel_rfl)
theorem fok38 : Abs.FunOk Tryd.prog 38 Tryd.f38 := Abs.FunOk.mk' Tryd.func38 (by kernel_rfl) (by kernel_rfl)
theorem fok39 : Abs.FunOk Tryd.prog 39 Tryd.f39 := Abs.FunOk.mk' Tryd.func39 (by kernel_rfl) (by kernel_rfl)
theorem fok40 : Abs.FunOk Tryd.prog 40 Tryd.f40 := Abs.FunOk.mk' Tryd.func40 (by kernel_rfl) (by kernel_rfl)
theorem fok41 : Abs.FunOk Tryd.prog 41 Tryd.f41 := Abs.FunOk.mk' Tryd.func41 (by kernel_rfl) (by kernel_rfl)
theorem fok42 : Abs.FunOk Tryd.prog 42 Tryd.f42 := Abs.FunOk.mk' Tryd.func42 (by kernel_rfl) (by kernel_rfl)
theorem fok43 : Abs.FunOk Tryd.prog 43 Tryd.f43 := Abs.FunOk.mk' Tryd.func43 (by kernel_rfl) (by kernel_rfl)
theorem fok44 : Abs.FunOk Tryd.prog 44 Tryd.f44 := Abs.FunOk.mk' Tryd.func44 (by kernel_rfl) (by kernel_rfl)
theorem fok45 : Abs.FunOk Tryd.prog 45 Tryd.f45 := Abs.FunOk.mk' Tryd.func45 (by kernel_rfl) (by kernel_rfl)
theorem fok46 : Abs.FunOk Tryd.prog 46 Tryd.f46 := Abs.FunOk.mk' Tryd.func46 (by kernel_rfl) (by kernel_rfl)
theorem fok47 : Abs.FunOk Tryd.prog 47 Tryd.f47 := Abs.FunOk.mk' Tryd.func47 (by kernel_rfl) (by kernel_rfl)
theorem fok48 : Abs.FunOk Tryd.prog 48 Tryd.f48 := Abs.FunOk.mk' Tryd.func48 (by kernel_rfl) (by kernel_rfl)
theorem fok49 : Abs.FunOk Tryd.prog 49 Tryd.f49 := Abs.FunOk.mk' Tryd.func49 (by kernel_rfl) (by kernel_rfl)
theorem fok50 : Abs.FunOk Tryd.prog 50 Tryd.f50 := Abs.FunOk.mk' Tryd.func50 (by kernel_rfl) (by kernel_rfl)
theorem fok51 : Abs.FunOk Tryd.prog 51 Tryd.f51 := Abs.FunOk.mk' Tryd.func51 (by kernel_rfl) (by kernel_rfl)
theorem fok52 : Abs.FunOk Tryd.prog 52 Tryd.f52 := Abs.FunOk.mk' Tryd.func52 (by kernel_rfl) (by kernel_rfl)
theorem fok53 : Abs.FunOk Tryd.prog 53 Tryd.f53 := Abs.FunOk.mk' Tryd.func53 (by kernel_rfl) (by kernel_rfl)
theorem fok54 : Abs.FunOk Tryd.prog 54 Tryd.f54 := Abs.FunOk.mk' Tryd.func54 (by kernel_rfl) (by kernel_rfl)
theorem fok55 : Abs.FunOk Tryd.prog 55 Tryd.f55 := Abs.FunOk.mk' Tryd.func55 (by kernel_rfl) (by kernel_rfl)
theorem fok56 : Abs.FunOk Tryd.prog 56 Tryd.f56 := Abs.FunOk.mk' Tryd.func56 (by kernel_rfl) (by kernel_rfl)
theorem fok57 : Abs.FunOk Tryd.prog 57 Tryd.f57 := Abs.FunOk.mk' Tryd.func57 (by kernel_rfl) (by kernel_rfl)
theorem fok58 : Abs.FunOk Tryd.prog 58 Tryd.f58 := Abs.FunOk.mk' Tryd.func58 (by kernel_rfl) (by kernel_rfl)
theorem fok59 : Abs.FunOk Tryd.prog 59 Tryd.f59 := Abs.FunOk.mk' Tryd.func59 (by kernel_rfl) (by kernel_rfl)
theorem fok60 : Abs.FunOk Tryd.prog 60 Tryd.f60 := Abs.FunOk.mk' Tryd.func60 (by kernel_rfl) (by kernel_rfl)
theorem fok61 : Abs.FunOk Tryd.prog 61 Tryd.f61 := Abs.FunOk.mk' Tryd.func61 (by kernel_rfl) (by kernel_rfl)
theorem fok62 : Abs.FunOk Tryd.prog 62 Tryd.f62 := Abs.FunOk.mk' Tryd.func62 (by kernel_rfl) (by kernel_rfl)
theorem fok63 : Abs.FunOk Tryd.prog 63 Tryd.f63 := Abs.FunOk.mk' Tryd.func63 (by kernel_rfl) (by kernel_rfl)
theorem fok64 : Abs.FunOk Tryd.prog 64 Tryd.f64 := Abs.FunOk.mk' Tryd.func64 (by kernel_rfl) (by kernel_rfl)
theorem fok65 : Abs.FunOk Tryd.prog 65 Tryd.f65 := Abs.FunOk.mk' Tryd.func65 (by kernel_rfl) (by kernel_rfl)
theorem fok66 : Abs.FunOk Tryd.prog 66 Tryd.f66 := Abs.FunOk.mk' Tryd.func66 (by kernel_rfl) (by kernel_rfl)
theorem fok67 : Abs.FunOk Tryd.prog 67 Tryd.f67 := Abs.FunOk.mk' Tryd.func67 (by kernel_rfl) (by kernel_rfl)
theorem fok68 : Abs.FunOk Tryd.prog 68 Tryd.f68 := Abs.FunOk.mk' Tryd.func68 (by kernel_rfl) (by kernel_rfl)
theorem fok69 : Abs.FunOk Tryd.prog 69 Tryd.f69 := Abs.FunOk.mk' Tryd.func69 (by kernel_rfl) (by kernel_rfl)
theorem fok70 : Abs.FunOk Tryd.prog 70 Tryd.f70 := Abs.FunOk.mk' Tryd.func70 (by kernel_rfl) (by kernel_rfl)
theorem fok71 : Abs.FunOk Tryd.prog 71 Tryd.f71 := Abs.FunOk.mk' Tryd.func71 (by kernel_rfl) (by kernel_rfl)
noncomputable def tys : Abs.T Abs.TI := (.node (.node (.node (.node (.node (.node (.node .leaf (.some ti63) .leaf) (.some ti31) (.node .leaf (.some ti95) .leaf)) (.some ti15) (.node (.node .leaf (.some ti79) .leaf) (.some ti47) (.node .leaf (.some ti111) .leaf))) (.some ti7) (.node (.node (.node .leaf (.some ti71) .leaf) (.some ti39) (.node .leaf (.some ti103) .leaf)) (.some ti23) (.node (.node .leaf (.some ti87) .leaf) (.some ti55) (.node .leaf (.some ti119) .leaf)))) (.some ti3) (.node (.node (.node (.node .leaf (.some ti67) .leaf) (.some ti35) (.node .leaf (.some ti99) .leaf)) (.some ti19) (.node (.node .leaf (.some ti83) .leaf) (.some ti51) (.node .leaf (.some ti115) .leaf))) (.some ti11) (.node (.node (.node .leaf (.some ti75) .leaf) .none (.node .leaf (.some ti107) .leaf)) (.some ti27) (.node (.node .leaf (.some ti91) .leaf) (.some ti59) (.node .leaf (.some ti123) .leaf))))) (.some ti1) (.node (.node (.node (.node (.node .leaf (.some ti65) .leaf) (.some ti33) (.node .leaf (.some ti97) .leaf)) (.some ti17) (.node (.node .leaf (.some ti81) .leaf) (.some ti49) (.node .leaf (.some ti113) .leaf))) (.some ti9) (.node (.node (.node .leaf (.some ti73) .leaf) (.some ti41) (.node .leaf (.some ti105) .leaf)) .none (.node (.node .leaf (.some ti89) .leaf) (.some ti57) (.node .leaf (.some ti121) .leaf)))) (.some ti5) (.node (.node (.node (.node .leaf (.some ti69) .leaf) (.some ti37) (.node .leaf (.some ti101) .leaf)) (.some ti21) (.node (.node .leaf (.some ti85) .leaf) (.some ti53) (.node .leaf (.some ti117) .leaf))) (.some ti13) (.node (.node (.node .leaf (.some ti77) .leaf) (.some ti45) (.node .leaf (.some ti109) .leaf)) .none (.node (.node .leaf (.some ti93) .leaf) (.some ti61) .leaf))))) .none (.node (.node (.node (.node (.node (.node .leaf (.some ti64) .leaf) (.some ti32) .leaf) (.some ti16) (.node (.node .leaf (.some ti80) .leaf) (.some ti48) (.node .leaf (.some ti112) .leaf))) (.some ti8) (.node (.node (.node .leaf (.some ti72) .leaf) (.some ti40) (.node .leaf (.some ti104) .leaf)) (.some ti24) (.node (.node .leaf (.some ti88) .leaf) (.some ti56) (.node .leaf (.some ti120) .leaf)))) (.some ti4) (.node (.node (.node (.node .leaf (.some ti68) .leaf) .none (.node .leaf (.some ti100) .leaf)) (.some ti20) (.node (.node .leaf (.some ti84) .leaf) (.some ti52) (.node .leaf (.some ti116) .leaf))) (.some ti12) (.node (.node (.node .leaf (.some ti76) .leaf) (.some ti44) .leaf) (.some ti28) (.node .leaf (.some ti60) (.node .leaf (.some ti124) .leaf))))) (.some ti2) (.node (.node (.node (.node .leaf (.some ti34) (.node .leaf (.some ti98) .leaf)) (.some ti18) (.node (.node .leaf (.some ti82) .leaf) (.some ti50) (.node .leaf (.some ti114) .leaf))) (.some ti10) (.node (.node (.node .leaf (.some ti74) .leaf) (.some ti42) (.node .leaf (.some ti106) .leaf)) (.some ti26) (.node (.node .leaf (.some ti90) .leaf) .none (.node .leaf (.some ti122) .leaf)))) (.some ti6) (.node (.node (.node (.node .leaf (.some ti70) .leaf) (.some ti38) (.node .leaf (.some ti102) .leaf)) (.some ti22) (.node (.node .leaf (.some ti86) .leaf) (.some ti54) (.node .leaf (.some ti118) .leaf))) (.some ti14) (.node (.node (.node .leaf (.some ti78) .leaf) (.some ti46) (.node .leaf (.some ti110) .leaf)) (.some ti30) (.node (.node .leaf (.some ti94) .leaf) (.some ti62) .leaf))))))
noncomputable def funs : Abs.T Func := (.node (.node (.node (.node (.node (.node (.node .leaf (.some Tryd.f63) .leaf) (.some Tryd.f31) .leaf) (.some Tryd.f15) (.node .leaf (.some Tryd.f47) .leaf)) (.some Tryd.f7) (.node (.node (.node .leaf (.some Tryd.f71) .leaf) (.some Tryd.f39) .leaf) (.some Tryd.f23) (.node .leaf (.some Tryd.f55) .leaf))) (.some Tryd.f3) (.node (.node (.node (.node .leaf (.some Tryd.f67) .leaf) (.some Tryd.f35) .leaf) (.some Tryd.f19) (.node .leaf (.some Tryd.f51) .leaf)) (.some Tryd.f11) (.node (.node .leaf (.some Tryd.f43) .leaf) (.some Tryd.f27) (.node .leaf (.some Tryd.f59) .leaf)))) .none (.node (.node (.node (.node (.node .leaf (.some Tryd.f65) .leaf) (.some Tryd.f33) .leaf) (.some Tryd.f17) (.node .leaf (.some Tryd.f49) .leaf)) (.some Tryd.f9) (.node (.node .leaf (.some Tryd.f41) .leaf) (.some Tryd.f25) (.node .leaf (.some Tryd.f57) .leaf))) (.some Tryd.f5) (.node (.node (.node (.node .leaf (.some Tryd.f69) .leaf) (.some Tryd.f37) .leaf) (.some Tryd.f21) (.node .leaf (.some Tryd.f53) .leaf)) (.some Tryd.f13) (.node (.node .leaf (.some Tryd.f45) .leaf) (.some Tryd.f29) (.node .leaf (.some Tryd.f61) .leaf))))) .none (.node (.node (.node (.node (.node (.node .leaf (.some Tryd.f64) .leaf) (.some Tryd.f32) .leaf) (.some Tryd.f16) (.node .leaf (.some Tryd.f48) .leaf)) (.some Tryd.f8) (.node (.node .leaf (.some Tryd.f40) .leaf) (.some Tryd.f24) (.node .leaf (.some Tryd.f56) .leaf))) (.some Tryd.f4) (.node (.node (.node (.node .leaf (.some Tryd.f68) .leaf) (.some Tryd.f36) .leaf) (.some Tryd.f20) (.node .leaf (.some Tryd.f52) .leaf)) (.some Tryd.f12) (.node (.node .leaf (.some Tryd.f44) .leaf) (.some Tryd.f28) (.node .leaf (.some Tryd.f60) .leaf)))) .none (.node (.node (.node (.node (.node .leaf (.some Tryd.f66) .leaf) (.some Tryd.f34) .leaf) (.some Tryd.f18) (.node .leaf (.some Tryd.f50) .leaf)) (.some Tryd.f10) (.node (.node .leaf (.some Tryd.f42) .leaf) (.some Tryd.f26) (.node .leaf (.some Tryd.f58) .leaf))) (.some Tryd.f6) (.node (.node (.node (.node .leaf (.some Tryd.f70) .leaf) (.some Tryd.f38) .leaf) (.some Tryd.f22) (.node .leaf (.some Tryd.f54) .leaf)) (.some Tryd.f14) (.node (.node .leaf (.some Tryd.f46) .leaf) (.some Tryd.f30) (.node .leaf (.some Tryd.f62) .leaf))))))
noncomputable def ctx : Abs.Ctx := ⟨funs, tys⟩
theorem tysOk : Abs.TysOk Tryd.prog ctx := Abs.T.allP (p := Abs.TyOk Tryd.prog) tys (fun j => j) ⟨⟨⟨⟨⟨⟨⟨trivial, Abs.some_p tok63, trivial⟩, Abs.some_p tok31, ⟨trivial, Abs.some_p tok95, trivial⟩⟩, Abs.some_p tok15, ⟨⟨trivial, Abs.some_p tok79, trivial⟩, Abs.some_p tok47, ⟨trivial, Abs.some_p tok111, trivial⟩⟩⟩, Abs.some_p tok7, ⟨⟨⟨trivial, Abs.some_p tok71, trivial⟩, Abs.some_p tok39, ⟨trivial, Abs.some_p tok103, trivial⟩⟩, Abs.some_p tok23, ⟨⟨trivial, Abs.some_p tok87, trivial⟩, Abs.some_p tok55, ⟨trivial, Abs.some_p tok119, trivial⟩⟩⟩⟩, Abs.some_p tok3, ⟨⟨⟨⟨trivial, Abs.some_p tok67, trivial⟩, Abs.some_p tok35, ⟨trivial, Abs.some_p tok99, trivial⟩⟩, Abs.some_p tok19, ⟨⟨trivial, Abs.some_p tok83, trivial⟩, Abs.some_p tok51, ⟨trivial, Abs.some_p tok115, trivial⟩⟩⟩, Abs.some_p tok11, ⟨⟨⟨trivial, Abs.some_p tok75, trivial⟩, Abs.none_p, ⟨trivial, Abs.some_p tok107, trivial⟩⟩, Abs.some_p tok27, ⟨⟨trivial, Abs.some_p tok91, trivial⟩, Abs.some_p tok59, ⟨trivial, Abs.some_p tok123, trivial⟩⟩⟩⟩⟩, Abs.some_p tok1, ⟨⟨⟨⟨⟨trivial, Abs.some_p tok65, trivial⟩, Abs.some_p tok33, ⟨trivial, Abs.some_p tok97, trivial⟩⟩, Abs.some_p tok17, ⟨⟨trivial, Abs.some_p tok81, trivial⟩, Abs.some_p tok49, ⟨trivial, Abs.some_p tok113, trivial⟩⟩⟩, Abs.some_p tok9, ⟨⟨⟨trivial, Abs.some_p tok73, trivial⟩, Abs.some_p tok41, ⟨trivial, Abs.some_p tok105, trivial⟩⟩, Abs.none_p, ⟨⟨trivial, Abs.some_p tok89, trivial⟩, Abs.some_p tok57, ⟨trivial, Abs.some_p tok121, trivial⟩⟩⟩⟩, Abs.some_p tok5, ⟨⟨⟨⟨trivial, Abs.some_p tok69, trivial⟩, Abs.some_p tok37, ⟨trivial, Abs.some_p tok101, trivial⟩⟩, Abs.some_p tok21, ⟨⟨trivial, Abs.some_p tok85, trivial⟩, Abs.some_p tok53, ⟨trivial, Abs.some_p tok117, trivial⟩⟩⟩, Abs.some_p tok13, ⟨⟨⟨trivial, Abs.some_p tok77, trivial⟩, Abs.some_p tok45, ⟨trivial, Abs.some_p tok109, trivial⟩⟩, Abs.none_p, ⟨⟨trivial, Abs.some_p tok93, trivial⟩, Abs.some_p tok61, trivial⟩⟩⟩⟩⟩, Abs.none_p, ⟨⟨⟨⟨⟨⟨trivial, Abs.some_p tok64, trivial⟩, Abs.some_p tok32, trivial⟩, Abs.some_p tok16, ⟨⟨trivial, Abs.some_p tok80, trivial⟩, Abs.some_p tok48, ⟨trivial, Abs.some_p tok112, trivial⟩⟩⟩, Abs.some_p tok8, ⟨⟨⟨trivial, Abs.some_p tok72, trivial⟩, Abs.some_p tok40, ⟨trivial, Abs.some_p tok104, trivial⟩⟩, Abs.some_p tok24, ⟨⟨trivial, Abs.some_p tok88, trivial⟩, Abs.some_p tok56, ⟨trivial, Abs.some_p tok120, trivial⟩⟩⟩⟩, Abs.some_p tok4, ⟨⟨⟨⟨trivial, Abs.some_p tok68, trivial⟩, Abs.none_p, ⟨trivial, Abs.some_p tok100, trivial⟩⟩, Abs.some_p tok20, ⟨⟨trivial, Abs.some_p tok84, trivial⟩, Abs.some_p tok52, ⟨trivial, Abs.some_p tok116, trivial⟩⟩⟩, Abs.some_p tok12, ⟨⟨⟨trivial, Abs.some_p tok76, trivial⟩, Abs.some_p tok44, trivial⟩, Abs.some_p tok28, ⟨trivial, Abs.some_p tok60, ⟨trivial, Abs.some_p tok124, trivial⟩⟩⟩⟩⟩, Abs.some_p tok2, ⟨⟨⟨⟨trivial, Abs.some_p tok34, ⟨trivial, Abs.some_p tok98, trivial⟩⟩, Abs.some_p tok18, ⟨⟨trivial, Abs.some_p tok82, trivial⟩, Abs.some_p tok50, ⟨trivial, Abs.some_p tok114, trivial⟩⟩⟩, Abs.some_p tok10, ⟨⟨⟨trivial, Abs.some_p tok74, trivial⟩, Abs.some_p tok42, ⟨trivial, Abs.some_p tok106, trivial⟩⟩, Abs.some_p tok26, ⟨⟨trivial, Abs.some_p tok90, trivial⟩, Abs.none_p, ⟨trivial, Abs.some_p tok122, trivial⟩⟩⟩⟩, Abs.some_p tok6, ⟨⟨⟨⟨trivial, Abs.some_p tok70, trivial⟩, Abs.some_p tok38, ⟨trivial, Abs.some_p tok102, trivial⟩⟩, Abs.some_p tok22, ⟨⟨trivial, Abs.some_p tok86, trivial⟩, Abs.some_p tok54, ⟨trivial, Abs.some_p tok118, trivial⟩⟩⟩, Abs.some_p tok14, ⟨⟨⟨trivial, Abs.some_p tok78, trivial⟩, Abs.some_p tok46, ⟨trivial, Abs.some_p tok110, trivial⟩⟩, Abs.some_p tok30, ⟨⟨trivial, Abs.some_p tok94, trivial⟩, Abs.some_p tok62, trivial⟩⟩⟩⟩⟩⟩
theorem funsOk : ∀ f fn, ctx.funs.get f = some fn → Abs.FunOk Tryd.prog f fn := Abs.T.allP (p := Abs.FunOk Tryd.prog) funs (fun j => j) ⟨⟨⟨⟨⟨⟨⟨trivial, Abs.some_p fok63, trivial⟩, Abs.some_p fok31, trivial⟩, Abs.some_p fok15, ⟨trivial, Abs.some_p fok47, trivial⟩⟩, Abs.some_p fok7, ⟨⟨⟨trivial, Abs.some_p fok71, trivial⟩, Abs.some_p fok39, trivial⟩, Abs.some_p fok23, ⟨trivial, Abs.some_p fok55, trivial⟩⟩⟩, Abs.some_p fok3, ⟨⟨⟨⟨trivial, Abs.some_p fok67, trivial⟩, Abs.some_p fok35, trivial⟩, Abs.some_p fok19, ⟨trivial, Abs.some_p fok51, trivial⟩⟩, Abs.some_p fok11, ⟨⟨trivial, Abs.some_p fok43, trivial⟩, Abs.some_p fok27, ⟨trivial, Abs.some_p fok59, trivial⟩⟩⟩⟩, Abs.none_p, ⟨⟨⟨⟨⟨trivial, Abs.some_p fok65, trivial⟩, Abs.some_p fok33, trivial⟩, Abs.some_p fok17, ⟨trivial, Abs.some_p fok49, trivial⟩⟩, Abs.some_p fok9, ⟨⟨trivial, Abs.some_p fok41, trivial⟩, Abs.some_p fok25, ⟨trivial, Abs.some_p fok57, trivial⟩⟩⟩, Abs.some_p fok5, ⟨⟨⟨⟨trivial, Abs.some_p fok69, trivial⟩, Abs.some_p fok37, trivial⟩, Abs.some_p fok21, ⟨trivial, Abs.some_p fok53, trivial⟩⟩, Abs.some_p fok13, ⟨⟨trivial, Abs.some_p fok45, trivial⟩, Abs.some_p fok29, ⟨trivial, Abs.some_p fok61, trivial⟩⟩⟩⟩⟩, Abs.none_p, ⟨⟨⟨⟨⟨⟨trivial, Abs.some_p fok64, trivial⟩, Abs.some_p fok32, trivial⟩, Abs.some_p fok16, ⟨trivial, Abs.some_p fok48, trivial⟩⟩, Abs.some_p fok8, ⟨⟨trivial, Abs.some_p fok40, trivial⟩, Abs.some_p fok24, ⟨trivial, Abs.some_p fok56, trivial⟩⟩⟩, Abs.some_p fok4, ⟨⟨⟨⟨trivial, Abs.some_p fok68, trivial⟩, Abs.some_p fok36, trivial⟩, Abs.some_p fok20, ⟨trivial, Abs.some_p fok52, trivial⟩⟩, Abs.some_p fok12, ⟨⟨trivial, Abs.some_p fok44, trivial⟩, Abs.some_p fok28, ⟨trivial, Abs.some_p fok60, trivial⟩⟩⟩⟩, Abs.none_p, ⟨⟨⟨⟨⟨trivial, Abs.some_p fok66, trivial⟩, Abs.some_p fok34, trivial⟩, Abs.some_p fok18, ⟨trivial, Abs.some_p fok50, trivial⟩⟩, Abs.some_p fok10, ⟨⟨trivial, Abs.some_p fok42, trivial⟩, Abs.some_p fok26, ⟨trivial, Abs.some_p fok58, trivial⟩⟩⟩, Abs.some_p fok6, ⟨⟨⟨⟨trivial, Abs.some_p fok70, trivial⟩, Abs.some_p fok38, trivial⟩, Abs.some_p fok22, ⟨trivial, Abs.some_p fok54, trivial⟩⟩, Abs.some_p fok14, ⟨⟨trivial, Abs.some_p fok46, trivial⟩, Abs.some_p fok30, ⟨trivial, Abs.some_p fok62, trivial⟩⟩⟩⟩⟩⟩
theorem mixed : Tryd.prog.follows .mixedOrders = true := by kernel_rfl
end Go.Proofs.YtiamfojbanfcnaaDoor
