/- The program's types, for the symbolic run. -/
import Derived.Test.YtmeahaaibncmmaaDoorRows
import Derived.Test.YtmeahaaibncmmaaDoorEngV
import Derived.KernelRfl
namespace Go.Proofs.YtmeahaaibncmmaaDoor
open Go.RowKit
namespace Eng
open Tr
def ti2 : TI := ⟨Go.TypeDesc.int Go.IntKind.i64, 1, 8, Go.Value.int Go.IntKind.i64 0, [], none⟩
theorem ti2_ok : TIok Tryd.prog 2 ti2 := ⟨Tryd.underlying2, by kernel_rfl, rfl, rfl, (fun _ h => nomatch h), (fun _ h => nomatch h)⟩
def ti3 : TI := ⟨Go.TypeDesc.int Go.IntKind.i64, 1, 8, Go.Value.int Go.IntKind.i64 0, [], none⟩
theorem ti3_ok : TIok Tryd.prog 3 ti3 := ⟨Tryd.underlying3, by kernel_rfl, rfl, rfl, (fun _ h => nomatch h), (fun _ h => nomatch h)⟩
def ti4 : TI := ⟨Go.TypeDesc.bool, 1, 1, Go.Value.bool false, [], none⟩
theorem ti4_ok : TIok Tryd.prog 4 ti4 := ⟨Tryd.underlying4, by kernel_rfl, rfl, rfl, (fun _ h => nomatch h), (fun _ h => nomatch h)⟩
def ti5 : TI := ⟨Go.TypeDesc.int Go.IntKind.u8, 1, 1, Go.Value.int Go.IntKind.u8 0, [], none⟩
theorem ti5_ok : TIok Tryd.prog 5 ti5 := ⟨Tryd.underlying5, by kernel_rfl, rfl, rfl, (fun _ h => nomatch h), (fun _ h => nomatch h)⟩
def ti6 : TI := ⟨Go.TypeDesc.int Go.IntKind.u8, 1, 1, Go.Value.int Go.IntKind.u8 0, [], none⟩
theorem ti6_ok : TIok Tryd.prog 6 ti6 := ⟨Tryd.underlying6, by kernel_rfl, rfl, rfl, (fun _ h => nomatch h), (fun _ h => nomatch h)⟩
def ti7 : TI := ⟨Go.TypeDesc.struct #[{ name := "x", type := 2, offset := 0, embedded := false, tag := "", pkgPath := "runtime", byteOffset := 0 }, { name := "y", type := 3, offset := 1, embedded := false, tag := "", pkgPath := "runtime", byteOffset := 8 }, { name := "signed", type := 4, offset := 2, embedded := false, tag := "", pkgPath := "runtime", byteOffset := 16 }, { name := "code", type := 6, offset := 3, embedded := false, tag := "", pkgPath := "runtime", byteOffset := 17 }], 4, 24, Go.Value.agg #[Go.Value.int Go.IntKind.i64 0, Go.Value.int Go.IntKind.i64 0, Go.Value.bool false, Go.Value.int Go.IntKind.u8 0], [(0, 1, false), (1, 1, false), (2, 1, false), (3, 1, false)], none⟩
theorem ti7_ok : TIok Tryd.prog 7 ti7 := ⟨Tryd.underlying7, by kernel_rfl, rfl, rfl, by rintro fields ⟨⟩; kernel_rfl, (fun _ h => nomatch h)⟩
def ti8 : TI := ⟨Go.TypeDesc.struct #[{ name := "x", type := 2, offset := 0, embedded := false, tag := "", pkgPath := "runtime", byteOffset := 0 }, { name := "y", type := 3, offset := 1, embedded := false, tag := "", pkgPath := "runtime", byteOffset := 8 }, { name := "signed", type := 4, offset := 2, embedded := false, tag := "", pkgPath := "runtime", byteOffset := 16 }, { name := "code", type := 6, offset := 3, embedded := false, tag := "", pkgPath := "runtime", byteOffset := 17 }], 4, 24, Go.Value.agg #[Go.Value.int Go.IntKind.i64 0, Go.Value.int Go.IntKind.i64 0, Go.Value.bool false, Go.Value.int Go.IntKind.u8 0], [(0, 1, false), (1, 1, false), (2, 1, false), (3, 1, false)], none⟩
theorem ti8_ok : TIok Tryd.prog 8 ti8 := ⟨Tryd.underlying8, by kernel_rfl, rfl, rfl, by rintro fields ⟨⟩; kernel_rfl, (fun _ h => nomatch h)⟩
def ti9 : TI := ⟨Go.TypeDesc.string, 1, 16, Go.Value.string { data := #[] }, [], none⟩
theorem ti9_ok : TIok Tryd.prog 9 ti9 := ⟨Tryd.underlying9, by kernel_rfl, rfl, rfl, (fun _ h => nomatch h), (fun _ h => nomatch h)⟩
def ti10 : TI := ⟨Go.TypeDesc.string, 1, 16, Go.Value.string { data := #[] }, [], none⟩
theorem ti10_ok : TIok Tryd.prog 10 ti10 := ⟨Tryd.underlying10, by kernel_rfl, rfl, rfl, (fun _ h => nomatch h), (fun _ h => nomatch h)⟩
def ti11 : TI := ⟨Go.TypeDesc.string, 1, 16, Go.Value.string { data := #[] }, [], none⟩
theorem ti11_ok : TIok Tryd.prog 11 ti11 := ⟨Tryd.underlying11, by kernel_rfl, rfl, rfl, (fun _ h => nomatch h), (fun _ h => nomatch h)⟩
def ti12 : TI := ⟨Go.TypeDesc.int Go.IntKind.u64, 1, 8, Go.Value.int Go.IntKind.u64 0, [], none⟩
theorem ti12_ok : TIok Tryd.prog 12 ti12 := ⟨Tryd.underlying12, by kernel_rfl, rfl, rfl, (fun _ h => nomatch h), (fun _ h => nomatch h)⟩
def ti13 : TI := ⟨Go.TypeDesc.struct #[{ name := "msg", type := 9, offset := 0, embedded := false, tag := "", pkgPath := "runtime", byteOffset := 0 }, { name := "addr", type := 12, offset := 1, embedded := false, tag := "", pkgPath := "runtime", byteOffset := 16 }], 2, 24, Go.Value.agg #[Go.Value.string { data := #[] }, Go.Value.int Go.IntKind.u64 0], [(0, 1, false), (1, 1, false)], none⟩
theorem ti13_ok : TIok Tryd.prog 13 ti13 := ⟨Tryd.underlying13, by kernel_rfl, rfl, rfl, by rintro fields ⟨⟩; kernel_rfl, (fun _ h => nomatch h)⟩
def ti14 : TI := ⟨Go.TypeDesc.struct #[{ name := "msg", type := 9, offset := 0, embedded := false, tag := "", pkgPath := "runtime", byteOffset := 0 }, { name := "addr", type := 12, offset := 1, embedded := false, tag := "", pkgPath := "runtime", byteOffset := 16 }], 2, 24, Go.Value.agg #[Go.Value.string { data := #[] }, Go.Value.int Go.IntKind.u64 0], [(0, 1, false), (1, 1, false)], none⟩
theorem ti14_ok : TIok Tryd.prog 14 ti14 := ⟨Tryd.underlying14, by kernel_rfl, rfl, rfl, by rintro fields ⟨⟩; kernel_rfl, (fun _ h => nomatch h)⟩
def ti15 : TI := ⟨Go.TypeDesc.pointer 65, 1, 8, Go.Value.pointer none, [], none⟩
theorem ti15_ok : TIok Tryd.prog 15 ti15 := ⟨Tryd.underlying15, by kernel_rfl, rfl, rfl, (fun _ h => nomatch h), (fun _ h => nomatch h)⟩
def ti16 : TI := ⟨Go.TypeDesc.pointer 68, 1, 8, Go.Value.pointer none, [], none⟩
theorem ti16_ok : TIok Tryd.prog 16 ti16 := ⟨Tryd.underlying16, by kernel_rfl, rfl, rfl, (fun _ h => nomatch h), (fun _ h => nomatch h)⟩
def ti17 : TI := ⟨Go.TypeDesc.pointer 78, 1, 8, Go.Value.pointer none, [], none⟩
theorem ti17_ok : TIok Tryd.prog 17 ti17 := ⟨Tryd.underlying17, by kernel_rfl, rfl, rfl, (fun _ h => nomatch h), (fun _ h => nomatch h)⟩
def ti18 : TI := ⟨Go.TypeDesc.struct #[{ name := "typ", type := 17, offset := 0, embedded := false, tag := "", pkgPath := "internal/runtime/maps", byteOffset := 0 }], 1, 8, Go.Value.agg #[Go.Value.pointer none], [(0, 1, false)], none⟩
theorem ti18_ok : TIok Tryd.prog 18 ti18 := ⟨Tryd.underlying18, by kernel_rfl, rfl, rfl, by rintro fields ⟨⟩; kernel_rfl, (fun _ h => nomatch h)⟩
def ti19 : TI := ⟨Go.TypeDesc.struct #[{ name := "typ", type := 17, offset := 0, embedded := false, tag := "", pkgPath := "internal/runtime/maps", byteOffset := 0 }], 1, 8, Go.Value.agg #[Go.Value.pointer none], [(0, 1, false)], none⟩
theorem ti19_ok : TIok Tryd.prog 19 ti19 := ⟨Tryd.underlying19, by kernel_rfl, rfl, rfl, by rintro fields ⟨⟩; kernel_rfl, (fun _ h => nomatch h)⟩
def ti21 : TI := ⟨Go.TypeDesc.int Go.IntKind.i32, 1, 4, Go.Value.int Go.IntKind.i32 0, [], none⟩
theorem ti21_ok : TIok Tryd.prog 21 ti21 := ⟨Tryd.underlying21, by kernel_rfl, rfl, rfl, (fun _ h => nomatch h), (fun _ h => nomatch h)⟩
def ti22 : TI := ⟨Go.TypeDesc.slice 5, 1, 24, Go.Value.slice none 0 0, [], none⟩
theorem ti22_ok : TIok Tryd.prog 22 ti22 := ⟨Tryd.underlying22, by kernel_rfl, rfl, rfl, (fun _ h => nomatch h), (fun _ h => nomatch h)⟩
def ti24 : TI := ⟨Go.TypeDesc.slice 31, 1, 24, Go.Value.slice none 0 0, [], none⟩
theorem ti24_ok : TIok Tryd.prog 24 ti24 := ⟨Tryd.underlying24, by kernel_rfl, rfl, rfl, (fun _ h => nomatch h), (fun _ h => nomatch h)⟩
def ti30 : TI := ⟨Go.TypeDesc.struct #[{ name := "Page", type := 3, offset := 0, embedded := false, tag := "", pkgPath := "", byteOffset := 0 }, { name := "Class", type := 3, offset := 1, embedded := false, tag := "", pkgPath := "", byteOffset := 8 }, { name := "Bits", type := 3, offset := 2, embedded := false, tag := "", pkgPath := "", byteOffset := 16 }], 3, 24, Go.Value.agg #[Go.Value.int Go.IntKind.i64 0, Go.Value.int Go.IntKind.i64 0, Go.Value.int Go.IntKind.i64 0], [(0, 1, false), (1, 1, false), (2, 1, false)], none⟩
theorem ti30_ok : TIok Tryd.prog 30 ti30 := ⟨Tryd.underlying30, by kernel_rfl, rfl, rfl, by rintro fields ⟨⟩; kernel_rfl, (fun _ h => nomatch h)⟩
def ti31 : TI := ⟨Go.TypeDesc.struct #[{ name := "Page", type := 3, offset := 0, embedded := false, tag := "", pkgPath := "", byteOffset := 0 }, { name := "Class", type := 3, offset := 1, embedded := false, tag := "", pkgPath := "", byteOffset := 8 }, { name := "Bits", type := 3, offset := 2, embedded := false, tag := "", pkgPath := "", byteOffset := 16 }], 3, 24, Go.Value.agg #[Go.Value.int Go.IntKind.i64 0, Go.Value.int Go.IntKind.i64 0, Go.Value.int Go.IntKind.i64 0], [(0, 1, false), (1, 1, false), (2, 1, false)], some [some .i64, some .i64, some .i64]⟩
theorem ti31_ok : TIok Tryd.prog 31 ti31 := ⟨Tryd.underlying31, by kernel_rfl, rfl, rfl, by rintro fields ⟨⟩; kernel_rfl, by rintro sh ⟨⟩; exact ⟨by kernel_rfl, by kernel_rfl, by kernel_rfl, by kernel_rfl⟩⟩
def ti34 : TI := ⟨Go.TypeDesc.int Go.IntKind.u64, 1, 8, Go.Value.int Go.IntKind.u64 0, [], none⟩
theorem ti34_ok : TIok Tryd.prog 34 ti34 := ⟨Tryd.underlying34, by kernel_rfl, rfl, rfl, (fun _ h => nomatch h), (fun _ h => nomatch h)⟩
def ti36 : TI := ⟨Go.TypeDesc.struct #[{ name := "Page", type := 3, offset := 0, embedded := false, tag := "", pkgPath := "", byteOffset := 0 }, { name := "Class", type := 3, offset := 1, embedded := false, tag := "", pkgPath := "", byteOffset := 8 }, { name := "Bits", type := 3, offset := 2, embedded := false, tag := "", pkgPath := "", byteOffset := 16 }], 3, 24, Go.Value.agg #[Go.Value.int Go.IntKind.i64 0, Go.Value.int Go.IntKind.i64 0, Go.Value.int Go.IntKind.i64 0], [(0, 1, false), (1, 1, false), (2, 1, false)], some [some .i64, some .i64, some .i64]⟩
theorem ti36_ok : TIok Tryd.prog 36 ti36 := ⟨Tryd.underlying36, by kernel_rfl, rfl, rfl, by rintro fields ⟨⟩; kernel_rfl, by rintro sh ⟨⟩; exact ⟨by kernel_rfl, by kernel_rfl, by kernel_rfl, by kernel_rfl⟩⟩
def ti39 : TI := ⟨Go.TypeDesc.slice 36, 1, 24, Go.Value.slice none 0 0, [], none⟩
theorem ti39_ok : TIok Tryd.prog 39 ti39 := ⟨Tryd.underlying39, by kernel_rfl, rfl, rfl, (fun _ h => nomatch h), (fun _ h => nomatch h)⟩
def ti45 : TI := ⟨Go.TypeDesc.pointer 54, 1, 8, Go.Value.pointer none, [], none⟩
theorem ti45_ok : TIok Tryd.prog 45 ti45 := ⟨Tryd.underlying45, by kernel_rfl, rfl, rfl, (fun _ h => nomatch h), (fun _ h => nomatch h)⟩
def ti53 : TI := ⟨Go.TypeDesc.struct #[{ name := "b", type := 22, offset := 0, embedded := false, tag := "", pkgPath := "loop.example/g00978/spec", byteOffset := 0 }, { name := "i", type := 3, offset := 1, embedded := false, tag := "", pkgPath := "loop.example/g00978/spec", byteOffset := 24 }, { name := "h", type := 3, offset := 2, embedded := false, tag := "", pkgPath := "loop.example/g00978/spec", byteOffset := 32 }], 3, 40, Go.Value.agg #[Go.Value.slice none 0 0, Go.Value.int Go.IntKind.i64 0, Go.Value.int Go.IntKind.i64 0], [(0, 1, false), (1, 1, false), (2, 1, false)], none⟩
theorem ti53_ok : TIok Tryd.prog 53 ti53 := ⟨Tryd.underlying53, by kernel_rfl, rfl, rfl, by rintro fields ⟨⟩; kernel_rfl, (fun _ h => nomatch h)⟩
def ti54 : TI := ⟨Go.TypeDesc.struct #[{ name := "b", type := 22, offset := 0, embedded := false, tag := "", pkgPath := "loop.example/g00978/spec", byteOffset := 0 }, { name := "i", type := 3, offset := 1, embedded := false, tag := "", pkgPath := "loop.example/g00978/spec", byteOffset := 24 }, { name := "h", type := 3, offset := 2, embedded := false, tag := "", pkgPath := "loop.example/g00978/spec", byteOffset := 32 }], 3, 40, Go.Value.agg #[Go.Value.slice none 0 0, Go.Value.int Go.IntKind.i64 0, Go.Value.int Go.IntKind.i64 0], [(0, 1, false), (1, 1, false), (2, 1, false)], none⟩
theorem ti54_ok : TIok Tryd.prog 54 ti54 := ⟨Tryd.underlying54, by kernel_rfl, rfl, rfl, by rintro fields ⟨⟩; kernel_rfl, (fun _ h => nomatch h)⟩
def ti59 : TI := ⟨Go.TypeDesc.slice 3, 1, 24, Go.Value.slice none 0 0, [], none⟩
theorem ti59_ok : TIok Tryd.prog 59 ti59 := ⟨Tryd.underlying59, by kernel_rfl, rfl, rfl, (fun _ h => nomatch h), (fun _ h => nomatch h)⟩
def ti61 : TI := ⟨Go.TypeDesc.array 16 3, 16, 128, Go.Value.agg #[Go.Value.int Go.IntKind.i64 0, Go.Value.int Go.IntKind.i64 0, Go.Value.int Go.IntKind.i64 0, Go.Value.int Go.IntKind.i64 0, Go.Value.int Go.IntKind.i64 0, Go.Value.int Go.IntKind.i64 0, Go.Value.int Go.IntKind.i64 0, Go.Value.int Go.IntKind.i64 0, Go.Value.int Go.IntKind.i64 0, Go.Value.int Go.IntKind.i64 0, Go.Value.int Go.IntKind.i64 0, Go.Value.int Go.IntKind.i64 0, Go.Value.int Go.IntKind.i64 0, Go.Value.int Go.IntKind.i64 0, Go.Value.int Go.IntKind.i64 0, Go.Value.int Go.IntKind.i64 0], [], none⟩
theorem ti61_ok : TIok Tryd.prog 61 ti61 := ⟨Tryd.underlying61, by kernel_rfl, rfl, rfl, (fun _ h => nomatch h), (fun _ h => nomatch h)⟩
def ti62 : TI := ⟨Go.TypeDesc.array 4 3, 4, 32, Go.Value.agg #[Go.Value.int Go.IntKind.i64 0, Go.Value.int Go.IntKind.i64 0, Go.Value.int Go.IntKind.i64 0, Go.Value.int Go.IntKind.i64 0], [], none⟩
theorem ti62_ok : TIok Tryd.prog 62 ti62 := ⟨Tryd.underlying62, by kernel_rfl, rfl, rfl, (fun _ h => nomatch h), (fun _ h => nomatch h)⟩
def ti64 : TI := ⟨Go.TypeDesc.struct #[{ name := "_interface", type := 17, offset := 0, embedded := false, tag := "", pkgPath := "runtime", byteOffset := 0 }, { name := "concrete", type := 17, offset := 1, embedded := false, tag := "", pkgPath := "runtime", byteOffset := 8 }, { name := "asserted", type := 17, offset := 2, embedded := false, tag := "", pkgPath := "runtime", byteOffset := 16 }, { name := "missingMethod", type := 9, offset := 3, embedded := false, tag := "", pkgPath := "runtime", byteOffset := 24 }], 4, 40, Go.Value.agg #[Go.Value.pointer none, Go.Value.pointer none, Go.Value.pointer none, Go.Value.string { data := #[] }], [(0, 1, false), (1, 1, false), (2, 1, false), (3, 1, false)], none⟩
theorem ti64_ok : TIok Tryd.prog 64 ti64 := ⟨Tryd.underlying64, by kernel_rfl, rfl, rfl, by rintro fields ⟨⟩; kernel_rfl, (fun _ h => nomatch h)⟩
def ti65 : TI := ⟨Go.TypeDesc.struct #[{ name := "_interface", type := 17, offset := 0, embedded := false, tag := "", pkgPath := "runtime", byteOffset := 0 }, { name := "concrete", type := 17, offset := 1, embedded := false, tag := "", pkgPath := "runtime", byteOffset := 8 }, { name := "asserted", type := 17, offset := 2, embedded := false, tag := "", pkgPath := "runtime", byteOffset := 16 }, { name := "missingMethod", type := 9, offset := 3, embedded := false, tag := "", pkgPath := "runtime", byteOffset := 24 }], 4, 40, Go.Value.agg #[Go.Value.pointer none, Go.Value.pointer none, Go.Value.pointer none, Go.Value.string { data := #[] }], [(0, 1, false), (1, 1, false), (2, 1, false), (3, 1, false)], none⟩
theorem ti65_ok : TIok Tryd.prog 65 ti65 := ⟨Tryd.underlying65, by kernel_rfl, rfl, rfl, by rintro fields ⟨⟩; kernel_rfl, (fun _ h => nomatch h)⟩
def ti66 : TI := ⟨Go.TypeDesc.array 0 16, 0, 0, Go.Value.agg #[], [], none⟩
theorem ti66_ok : TIok Tryd.prog 66 ti66 := ⟨Tryd.underlying66, by kernel_rfl, rfl, rfl, (fun _ h => nomatch h), (fun _ h => nomatch h)⟩
def ti67 : TI := ⟨Go.TypeDesc.struct #[{ name := "_", type := 66, offset := 0, embedded := false, tag := "", pkgPath := "runtime", byteOffset := 0 }], 0, 0, Go.Value.agg #[], [(0, 0, true)], none⟩
theorem ti67_ok : TIok Tryd.prog 67 ti67 := ⟨Tryd.underlying67, by kernel_rfl, rfl, rfl, by rintro fields ⟨⟩; kernel_rfl, (fun _ h => nomatch h)⟩
def ti68 : TI := ⟨Go.TypeDesc.struct #[{ name := "_", type := 66, offset := 0, embedded := false, tag := "", pkgPath := "runtime", byteOffset := 0 }], 0, 0, Go.Value.agg #[], [(0, 0, true)], none⟩
theorem ti68_ok : TIok Tryd.prog 68 ti68 := ⟨Tryd.underlying68, by kernel_rfl, rfl, rfl, by rintro fields ⟨⟩; kernel_rfl, (fun _ h => nomatch h)⟩
def ti70 : TI := ⟨Go.TypeDesc.int Go.IntKind.u32, 1, 4, Go.Value.int Go.IntKind.u32 0, [], none⟩
theorem ti70_ok : TIok Tryd.prog 70 ti70 := ⟨Tryd.underlying70, by kernel_rfl, rfl, rfl, (fun _ h => nomatch h), (fun _ h => nomatch h)⟩
def ti71 : TI := ⟨Go.TypeDesc.int Go.IntKind.u8, 1, 1, Go.Value.int Go.IntKind.u8 0, [], none⟩
theorem ti71_ok : TIok Tryd.prog 71 ti71 := ⟨Tryd.underlying71, by kernel_rfl, rfl, rfl, (fun _ h => nomatch h), (fun _ h => nomatch h)⟩
def ti72 : TI := ⟨Go.TypeDesc.int Go.IntKind.u8, 1, 1, Go.Value.int Go.IntKind.u8 0, [], none⟩
theorem ti72_ok : TIok Tryd.prog 72 ti72 := ⟨Tryd.underlying72, by kernel_rfl, rfl, rfl, (fun _ h => nomatch h), (fun _ h => nomatch h)⟩
def ti74 : TI := ⟨Go.TypeDesc.pointer 5, 1, 8, Go.Value.pointer none, [], none⟩
theorem ti74_ok : TIok Tryd.prog 74 ti74 := ⟨Tryd.underlying74, by kernel_rfl, rfl, rfl, (fun _ h => nomatch h), (fun _ h => nomatch h)⟩
def ti75 : TI := ⟨Go.TypeDesc.int Go.IntKind.i32, 1, 4, Go.Value.int Go.IntKind.i32 0, [], none⟩
theorem ti75_ok : TIok Tryd.prog 75 ti75 := ⟨Tryd.underlying75, by kernel_rfl, rfl, rfl, (fun _ h => nomatch h), (fun _ h => nomatch h)⟩
def ti76 : TI := ⟨Go.TypeDesc.int Go.IntKind.i32, 1, 4, Go.Value.int Go.IntKind.i32 0, [], none⟩
theorem ti76_ok : TIok Tryd.prog 76 ti76 := ⟨Tryd.underlying76, by kernel_rfl, rfl, rfl, (fun _ h => nomatch h), (fun _ h => nomatch h)⟩
def tt : TT := [(2, ti2), (3, ti3), (4, ti4), (5, ti5), (6, ti6), (7, ti7), (8, ti8), (9, ti9), (10, ti10), (11, ti11), (12, ti12), (13, ti13), (14, ti14), (15, ti15), (16, ti16), (17, ti17), (18, ti18), (19, ti19), (21, ti21), (22, ti22), (24, ti24), (30, ti30), (31, ti31), (34, ti34), (36, ti36), (39, ti39), (45, ti45), (53, ti53), (54, ti54), (59, ti59), (61, ti61), (62, ti62), (64, ti64), (65, ti65), (66, ti66), (67, ti67), (68, ti68), (70, ti70), (71, ti71), (72, ti72), (74, ti74), (75, ti75), (76, ti76)]
theorem tt_ok : TTok Tryd.prog tt := TTok.cons ti2_ok (TTok.cons ti3_ok (TTok.cons ti4_ok (TTok.cons ti5_ok (TTok.cons ti6_ok (TTok.cons ti7_ok (TTok.cons ti8_ok (TTok.cons ti9_ok (TTok.cons ti10_ok (TTok.cons ti11_ok (TTok.cons ti12_ok (TTok.cons ti13_ok (TTok.cons ti14_ok (TTok.cons ti15_ok (TTok.cons ti16_ok (TTok.cons ti17_ok (TTok.cons ti18_ok (TTok.cons ti19_ok (TTok.cons ti21_ok (TTok.cons ti22_ok (TTok.cons ti24_ok (TTok.cons ti30_ok (TTok.cons ti31_ok (TTok.cons ti34_ok (TTok.cons ti36_ok (TTok.cons ti39_ok (TTok.cons ti45_ok (TTok.cons ti53_ok (TTok.cons ti54_ok (TTok.cons ti59_ok (TTok.cons ti61_ok (TTok.cons ti62_ok (TTok.cons ti64_ok (TTok.cons ti65_ok (TTok.cons ti66_ok (TTok.cons ti67_ok (TTok.cons ti68_ok (TTok.cons ti70_ok (TTok.cons ti71_ok (TTok.cons ti72_ok (TTok.cons ti74_ok (TTok.cons ti75_ok (TTok.cons ti76_ok (TTok.nil _)))))))))))))))))))))))))))))))))))))))))))
end Eng
end Go.Proofs.YtmeahaaibncmmaaDoor
