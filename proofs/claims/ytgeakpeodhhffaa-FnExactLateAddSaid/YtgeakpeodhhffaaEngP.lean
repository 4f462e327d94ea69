/- The program's types, for the symbolic run. -/
import Derived.Test.YtgeakpeodhhffaaRows
import Derived.Test.YtgeakpeodhhffaaEngV
import Derived.KernelRfl
namespace Go.Proofs.Ytgeakpeodhhffaa
open Go.RowKit
namespace Eng
open Tr
def ti2 : TI := ⟨Go.TypeDesc.int Go.IntKind.i64, 1, 8, Go.Value.int Go.IntKind.i64 0, [], none⟩
theorem ti2_ok : TIok Try.prog 2 ti2 := ⟨Try.underlying2, by kernel_rfl, rfl, rfl, (fun _ h => nomatch h), (fun _ h => nomatch h)⟩
def ti3 : TI := ⟨Go.TypeDesc.int Go.IntKind.i64, 1, 8, Go.Value.int Go.IntKind.i64 0, [], none⟩
theorem ti3_ok : TIok Try.prog 3 ti3 := ⟨Try.underlying3, by kernel_rfl, rfl, rfl, (fun _ h => nomatch h), (fun _ h => nomatch h)⟩
def ti4 : TI := ⟨Go.TypeDesc.bool, 1, 1, Go.Value.bool false, [], none⟩
theorem ti4_ok : TIok Try.prog 4 ti4 := ⟨Try.underlying4, by kernel_rfl, rfl, rfl, (fun _ h => nomatch h), (fun _ h => nomatch h)⟩
def ti5 : TI := ⟨Go.TypeDesc.int Go.IntKind.u8, 1, 1, Go.Value.int Go.IntKind.u8 0, [], none⟩
theorem ti5_ok : TIok Try.prog 5 ti5 := ⟨Try.underlying5, by kernel_rfl, rfl, rfl, (fun _ h => nomatch h), (fun _ h => nomatch h)⟩
def ti6 : TI := ⟨Go.TypeDesc.int Go.IntKind.u8, 1, 1, Go.Value.int Go.IntKind.u8 0, [], none⟩
theorem ti6_ok : TIok Try.prog 6 ti6 := ⟨Try.underlying6, by kernel_rfl, rfl, rfl, (fun _ h => nomatch h), (fun _ h => nomatch h)⟩
def ti7 : TI := ⟨Go.TypeDesc.struct #[{ name := "x", type := 2, offset := 0, embedded := false, tag := "", pkgPath := "runtime", byteOffset := 0 }, { name := "y", type := 3, offset := 1, embedded := false, tag := "", pkgPath := "runtime", byteOffset := 8 }, { name := "signed", type := 4, offset := 2, embedded := false, tag := "", pkgPath := "runtime", byteOffset := 16 }, { name := "code", type := 6, offset := 3, embedded := false, tag := "", pkgPath := "runtime", byteOffset := 17 }], 4, 24, Go.Value.agg #[Go.Value.int Go.IntKind.i64 0, Go.Value.int Go.IntKind.i64 0, Go.Value.bool false, Go.Value.int Go.IntKind.u8 0], [(0, 1, false), (1, 1, false), (2, 1, false), (3, 1, false)], none⟩
theorem ti7_ok : TIok Try.prog 7 ti7 := ⟨Try.underlying7, by kernel_rfl, rfl, rfl, by rintro fields ⟨⟩; kernel_rfl, (fun _ h => nomatch h)⟩
def ti8 : TI := ⟨Go.TypeDesc.struct #[{ name := "x", type := 2, offset := 0, embedded := false, tag := "", pkgPath := "runtime", byteOffset := 0 }, { name := "y", type := 3, offset := 1, embedded := false, tag := "", pkgPath := "runtime", byteOffset := 8 }, { name := "signed", type := 4, offset := 2, embedded := false, tag := "", pkgPath := "runtime", byteOffset := 16 }, { name := "code", type := 6, offset := 3, embedded := false, tag := "", pkgPath := "runtime", byteOffset := 17 }], 4, 24, Go.Value.agg #[Go.Value.int Go.IntKind.i64 0, Go.Value.int Go.IntKind.i64 0, Go.Value.bool false, Go.Value.int Go.IntKind.u8 0], [(0, 1, false), (1, 1, false), (2, 1, false), (3, 1, false)], none⟩
theorem ti8_ok : TIok Try.prog 8 ti8 := ⟨Try.underlying8, by kernel_rfl, rfl, rfl, by rintro fields ⟨⟩; kernel_rfl, (fun _ h => nomatch h)⟩
def ti9 : TI := ⟨Go.TypeDesc.string, 1, 16, Go.Value.string { data := #[] }, [], none⟩
theorem ti9_ok : TIok Try.prog 9 ti9 := ⟨Try.underlying9, by kernel_rfl, rfl, rfl, (fun _ h => nomatch h), (fun _ h => nomatch h)⟩
def ti10 : TI := ⟨Go.TypeDesc.string, 1, 16, Go.Value.string { data := #[] }, [], none⟩
theorem ti10_ok : TIok Try.prog 10 ti10 := ⟨Try.underlying10, by kernel_rfl, rfl, rfl, (fun _ h => nomatch h), (fun _ h => nomatch h)⟩
def ti11 : TI := ⟨Go.TypeDesc.string, 1, 16, Go.Value.string { data := #[] }, [], none⟩
theorem ti11_ok : TIok Try.prog 11 ti11 := ⟨Try.underlying11, by kernel_rfl, rfl, rfl, (fun _ h => nomatch h), (fun _ h => nomatch h)⟩
def ti12 : TI := ⟨Go.TypeDesc.int Go.IntKind.u64, 1, 8, Go.Value.int Go.IntKind.u64 0, [], none⟩
theorem ti12_ok : TIok Try.prog 12 ti12 := ⟨Try.underlying12, by kernel_rfl, rfl, rfl, (fun _ h => nomatch h), (fun _ h => nomatch h)⟩
def ti13 : TI := ⟨Go.TypeDesc.struct #[{ name := "msg", type := 9, offset := 0, embedded := false, tag := "", pkgPath := "runtime", byteOffset := 0 }, { name := "addr", type := 12, offset := 1, embedded := false, tag := "", pkgPath := "runtime", byteOffset := 16 }], 2, 24, Go.Value.agg #[Go.Value.string { data := #[] }, Go.Value.int Go.IntKind.u64 0], [(0, 1, false), (1, 1, false)], none⟩
theorem ti13_ok : TIok Try.prog 13 ti13 := ⟨Try.underlying13, by kernel_rfl, rfl, rfl, by rintro fields ⟨⟩; kernel_rfl, (fun _ h => nomatch h)⟩
def ti14 : TI := ⟨Go.TypeDesc.struct #[{ name := "msg", type := 9, offset := 0, embedded := false, tag := "", pkgPath := "runtime", byteOffset := 0 }, { name := "addr", type := 12, offset := 1, embedded := false, tag := "", pkgPath := "runtime", byteOffset := 16 }], 2, 24, Go.Value.agg #[Go.Value.string { data := #[] }, Go.Value.int Go.IntKind.u64 0], [(0, 1, false), (1, 1, false)], none⟩
theorem ti14_ok : TIok Try.prog 14 ti14 := ⟨Try.underlying14, by kernel_rfl, rfl, rfl, by rintro fields ⟨⟩; kernel_rfl, (fun _ h => nomatch h)⟩
def ti15 : TI := ⟨Go.TypeDesc.pointer 41, 1, 8, Go.Value.pointer none, [], none⟩
theorem ti15_ok : TIok Try.prog 15 ti15 := ⟨Try.underlying15, by kernel_rfl, rfl, rfl, (fun _ h => nomatch h), (fun _ h => nomatch h)⟩
def ti16 : TI := ⟨Go.TypeDesc.pointer 44, 1, 8, Go.Value.pointer none, [], none⟩
theorem ti16_ok : TIok Try.prog 16 ti16 := ⟨Try.underlying16, by kernel_rfl, rfl, rfl, (fun _ h => nomatch h), (fun _ h => nomatch h)⟩
def ti17 : TI := ⟨Go.TypeDesc.pointer 54, 1, 8, Go.Value.pointer none, [], none⟩
theorem ti17_ok : TIok Try.prog 17 ti17 := ⟨Try.underlying17, by kernel_rfl, rfl, rfl, (fun _ h => nomatch h), (fun _ h => nomatch h)⟩
def ti18 : TI := ⟨Go.TypeDesc.struct #[{ name := "typ", type := 17, offset := 0, embedded := false, tag := "", pkgPath := "internal/runtime/maps", byteOffset := 0 }], 1, 8, Go.Value.agg #[Go.Value.pointer none], [(0, 1, false)], none⟩
theorem ti18_ok : TIok Try.prog 18 ti18 := ⟨Try.underlying18, by kernel_rfl, rfl, rfl, by rintro fields ⟨⟩; kernel_rfl, (fun _ h => nomatch h)⟩
def ti19 : TI := ⟨Go.TypeDesc.struct #[{ name := "typ", type := 17, offset := 0, embedded := false, tag := "", pkgPath := "internal/runtime/maps", byteOffset := 0 }], 1, 8, Go.Value.agg #[Go.Value.pointer none], [(0, 1, false)], none⟩
theorem ti19_ok : TIok Try.prog 19 ti19 := ⟨Try.underlying19, by kernel_rfl, rfl, rfl, by rintro fields ⟨⟩; kernel_rfl, (fun _ h => nomatch h)⟩
def ti21 : TI := ⟨Go.TypeDesc.int Go.IntKind.i32, 1, 4, Go.Value.int Go.IntKind.i32 0, [], none⟩
theorem ti21_ok : TIok Try.prog 21 ti21 := ⟨Try.underlying21, by kernel_rfl, rfl, rfl, (fun _ h => nomatch h), (fun _ h => nomatch h)⟩
def ti22 : TI := ⟨Go.TypeDesc.slice 24, 1, 24, Go.Value.slice none 0 0, [], none⟩
theorem ti22_ok : TIok Try.prog 22 ti22 := ⟨Try.underlying22, by kernel_rfl, rfl, rfl, (fun _ h => nomatch h), (fun _ h => nomatch h)⟩
def ti23 : TI := ⟨Go.TypeDesc.struct #[{ name := "Index", type := 3, offset := 0, embedded := false, tag := "", pkgPath := "", byteOffset := 0 }, { name := "Slot", type := 3, offset := 1, embedded := false, tag := "", pkgPath := "", byteOffset := 8 }], 2, 16, Go.Value.agg #[Go.Value.int Go.IntKind.i64 0, Go.Value.int Go.IntKind.i64 0], [(0, 1, false), (1, 1, false)], none⟩
theorem ti23_ok : TIok Try.prog 23 ti23 := ⟨Try.underlying23, by kernel_rfl, rfl, rfl, by rintro fields ⟨⟩; kernel_rfl, (fun _ h => nomatch h)⟩
def ti24 : TI := ⟨Go.TypeDesc.struct #[{ name := "Index", type := 3, offset := 0, embedded := false, tag := "", pkgPath := "", byteOffset := 0 }, { name := "Slot", type := 3, offset := 1, embedded := false, tag := "", pkgPath := "", byteOffset := 8 }], 2, 16, Go.Value.agg #[Go.Value.int Go.IntKind.i64 0, Go.Value.int Go.IntKind.i64 0], [(0, 1, false), (1, 1, false)], some [some .i64, some .i64]⟩
theorem ti24_ok : TIok Try.prog 24 ti24 := ⟨Try.underlying24, by kernel_rfl, rfl, rfl, by rintro fields ⟨⟩; kernel_rfl, by rintro sh ⟨⟩; exact ⟨by kernel_rfl, by kernel_rfl, by kernel_rfl, by kernel_rfl⟩⟩
def ti26 : TI := ⟨Go.TypeDesc.slice 30, 1, 24, Go.Value.slice none 0 0, [], none⟩
theorem ti26_ok : TIok Try.prog 26 ti26 := ⟨Try.underlying26, by kernel_rfl, rfl, rfl, (fun _ h => nomatch h), (fun _ h => nomatch h)⟩
def ti30 : TI := ⟨Go.TypeDesc.struct #[{ name := "Index", type := 3, offset := 0, embedded := false, tag := "", pkgPath := "", byteOffset := 0 }, { name := "Slot", type := 3, offset := 1, embedded := false, tag := "", pkgPath := "", byteOffset := 8 }], 2, 16, Go.Value.agg #[Go.Value.int Go.IntKind.i64 0, Go.Value.int Go.IntKind.i64 0], [(0, 1, false), (1, 1, false)], some [some .i64, some .i64]⟩
theorem ti30_ok : TIok Try.prog 30 ti30 := ⟨Try.underlying30, by kernel_rfl, rfl, rfl, by rintro fields ⟨⟩; kernel_rfl, by rintro sh ⟨⟩; exact ⟨by kernel_rfl, by kernel_rfl, by kernel_rfl, by kernel_rfl⟩⟩
def ti40 : TI := ⟨Go.TypeDesc.struct #[{ name := "_interface", type := 17, offset := 0, embedded := false, tag := "", pkgPath := "runtime", byteOffset := 0 }, { name := "concrete", type := 17, offset := 1, embedded := false, tag := "", pkgPath := "runtime", byteOffset := 8 }, { name := "asserted", type := 17, offset := 2, embedded := false, tag := "", pkgPath := "runtime", byteOffset := 16 }, { name := "missingMethod", type := 9, offset := 3, embedded := false, tag := "", pkgPath := "runtime", byteOffset := 24 }], 4, 40, Go.Value.agg #[Go.Value.pointer none, Go.Value.pointer none, Go.Value.pointer none, Go.Value.string { data := #[] }], [(0, 1, false), (1, 1, false), (2, 1, false), (3, 1, false)], none⟩
theorem ti40_ok : TIok Try.prog 40 ti40 := ⟨Try.underlying40, by kernel_rfl, rfl, rfl, by rintro fields ⟨⟩; kernel_rfl, (fun _ h => nomatch h)⟩
def ti41 : TI := ⟨Go.TypeDesc.struct #[{ name := "_interface", type := 17, offset := 0, embedded := false, tag := "", pkgPath := "runtime", byteOffset := 0 }, { name := "concrete", type := 17, offset := 1, embedded := false, tag := "", pkgPath := "runtime", byteOffset := 8 }, { name := "asserted", type := 17, offset := 2, embedded := false, tag := "", pkgPath := "runtime", byteOffset := 16 }, { name := "missingMethod", type := 9, offset := 3, embedded := false, tag := "", pkgPath := "runtime", byteOffset := 24 }], 4, 40, Go.Value.agg #[Go.Value.pointer none, Go.Value.pointer none, Go.Value.pointer none, Go.Value.string { data := #[] }], [(0, 1, false), (1, 1, false), (2, 1, false), (3, 1, false)], none⟩
theorem ti41_ok : TIok Try.prog 41 ti41 := ⟨Try.underlying41, by kernel_rfl, rfl, rfl, by rintro fields ⟨⟩; kernel_rfl, (fun _ h => nomatch h)⟩
def ti42 : TI := ⟨Go.TypeDesc.array 0 16, 0, 0, Go.Value.agg #[], [], none⟩
theorem ti42_ok : TIok Try.prog 42 ti42 := ⟨Try.underlying42, by kernel_rfl, rfl, rfl, (fun _ h => nomatch h), (fun _ h => nomatch h)⟩
def ti43 : TI := ⟨Go.TypeDesc.struct #[{ name := "_", type := 42, offset := 0, embedded := false, tag := "", pkgPath := "runtime", byteOffset := 0 }], 0, 0, Go.Value.agg #[], [(0, 0, true)], none⟩
theorem ti43_ok : TIok Try.prog 43 ti43 := ⟨Try.underlying43, by kernel_rfl, rfl, rfl, by rintro fields ⟨⟩; kernel_rfl, (fun _ h => nomatch h)⟩
def ti44 : TI := ⟨Go.TypeDesc.struct #[{ name := "_", type := 42, offset := 0, embedded := false, tag := "", pkgPath := "runtime", byteOffset := 0 }], 0, 0, Go.Value.agg #[], [(0, 0, true)], none⟩
theorem ti44_ok : TIok Try.prog 44 ti44 := ⟨Try.underlying44, by kernel_rfl, rfl, rfl, by rintro fields ⟨⟩; kernel_rfl, (fun _ h => nomatch h)⟩
def ti46 : TI := ⟨Go.TypeDesc.int Go.IntKind.u32, 1, 4, Go.Value.int Go.IntKind.u32 0, [], none⟩
theorem ti46_ok : TIok Try.prog 46 ti46 := ⟨Try.underlying46, by kernel_rfl, rfl, rfl, (fun _ h => nomatch h), (fun _ h => nomatch h)⟩
def ti47 : TI := ⟨Go.TypeDesc.int Go.IntKind.u8, 1, 1, Go.Value.int Go.IntKind.u8 0, [], none⟩
theorem ti47_ok : TIok Try.prog 47 ti47 := ⟨Try.underlying47, by kernel_rfl, rfl, rfl, (fun _ h => nomatch h), (fun _ h => nomatch h)⟩
def ti48 : TI := ⟨Go.TypeDesc.int Go.IntKind.u8, 1, 1, Go.Value.int Go.IntKind.u8 0, [], none⟩
theorem ti48_ok : TIok Try.prog 48 ti48 := ⟨Try.underlying48, by kernel_rfl, rfl, rfl, (fun _ h => nomatch h), (fun _ h => nomatch h)⟩
def ti50 : TI := ⟨Go.TypeDesc.pointer 5, 1, 8, Go.Value.pointer none, [], none⟩
theorem ti50_ok : TIok Try.prog 50 ti50 := ⟨Try.underlying50, by kernel_rfl, rfl, rfl, (fun _ h => nomatch h), (fun _ h => nomatch h)⟩
def ti51 : TI := ⟨Go.TypeDesc.int Go.IntKind.i32, 1, 4, Go.Value.int Go.IntKind.i32 0, [], none⟩
theorem ti51_ok : TIok Try.prog 51 ti51 := ⟨Try.underlying51, by kernel_rfl, rfl, rfl, (fun _ h => nomatch h), (fun _ h => nomatch h)⟩
def ti52 : TI := ⟨Go.TypeDesc.int Go.IntKind.i32, 1, 4, Go.Value.int Go.IntKind.i32 0, [], none⟩
theorem ti52_ok : TIok Try.prog 52 ti52 := ⟨Try.underlying52, by kernel_rfl, rfl, rfl, (fun _ h => nomatch h), (fun _ h => nomatch h)⟩
def ti57 : TI := ⟨Go.TypeDesc.slice 59, 1, 24, Go.Value.slice none 0 0, [], none⟩
theorem ti57_ok : TIok Try.prog 57 ti57 := ⟨Try.underlying57, by kernel_rfl, rfl, rfl, (fun _ h => nomatch h), (fun _ h => nomatch h)⟩
def ti58 : TI := ⟨Go.TypeDesc.struct #[{ name := "Page", type := 3, offset := 0, embedded := false, tag := "", pkgPath := "", byteOffset := 0 }, { name := "Class", type := 3, offset := 1, embedded := false, tag := "", pkgPath := "", byteOffset := 8 }, { name := "Bits", type := 3, offset := 2, embedded := false, tag := "", pkgPath := "", byteOffset := 16 }], 3, 24, Go.Value.agg #[Go.Value.int Go.IntKind.i64 0, Go.Value.int Go.IntKind.i64 0, Go.Value.int Go.IntKind.i64 0], [(0, 1, false), (1, 1, false), (2, 1, false)], none⟩
theorem ti58_ok : TIok Try.prog 58 ti58 := ⟨Try.underlying58, by kernel_rfl, rfl, rfl, by rintro fields ⟨⟩; kernel_rfl, (fun _ h => nomatch h)⟩
def ti59 : TI := ⟨Go.TypeDesc.struct #[{ name := "Page", type := 3, offset := 0, embedded := false, tag := "", pkgPath := "", byteOffset := 0 }, { name := "Class", type := 3, offset := 1, embedded := false, tag := "", pkgPath := "", byteOffset := 8 }, { name := "Bits", type := 3, offset := 2, embedded := false, tag := "", pkgPath := "", byteOffset := 16 }], 3, 24, Go.Value.agg #[Go.Value.int Go.IntKind.i64 0, Go.Value.int Go.IntKind.i64 0, Go.Value.int Go.IntKind.i64 0], [(0, 1, false), (1, 1, false), (2, 1, false)], some [some .i64, some .i64, some .i64]⟩
theorem ti59_ok : TIok Try.prog 59 ti59 := ⟨Try.underlying59, by kernel_rfl, rfl, rfl, by rintro fields ⟨⟩; kernel_rfl, by rintro sh ⟨⟩; exact ⟨by kernel_rfl, by kernel_rfl, by kernel_rfl, by kernel_rfl⟩⟩
def ti61 : TI := ⟨Go.TypeDesc.slice 3, 1, 24, Go.Value.slice none 0 0, [], none⟩
theorem ti61_ok : TIok Try.prog 61 ti61 := ⟨Try.underlying61, by kernel_rfl, rfl, rfl, (fun _ h => nomatch h), (fun _ h => nomatch h)⟩
def tt : TT := [(2, ti2), (3, ti3), (4, ti4), (5, ti5), (6, ti6), (7, ti7), (8, ti8), (9, ti9), (10, ti10), (11, ti11), (12, ti12), (13, ti13), (14, ti14), (15, ti15), (16, ti16), (17, ti17), (18, ti18), (19, ti19), (21, ti21), (22, ti22), (23, ti23), (24, ti24), (26, ti26), (30, ti30), (40, ti40), (41, ti41), (42, ti42), (43, ti43), (44, ti44), (46, ti46), (47, ti47), (48, ti48), (50, ti50), (51, ti51), (52, ti52), (57, ti57), (58, ti58), (59, ti59), (61, ti61)]
theorem tt_ok : TTok Try.prog tt := TTok.cons ti2_ok (TTok.cons ti3_ok (TTok.cons ti4_ok (TTok.cons ti5_ok (TTok.cons ti6_ok (TTok.cons ti7_ok (TTok.cons ti8_ok (TTok.cons ti9_ok (TTok.cons ti10_ok (TTok.cons ti11_ok (TTok.cons ti12_ok (TTok.cons ti13_ok (TTok.cons ti14_ok (TTok.cons ti15_ok (TTok.cons ti16_ok (TTok.cons ti17_ok (TTok.cons ti18_ok (TTok.cons ti19_ok (TTok.cons ti21_ok (TTok.cons ti22_ok (TTok.cons ti23_ok (TTok.cons ti24_ok (TTok.cons ti26_ok (TTok.cons ti30_ok (TTok.cons ti40_ok (TTok.cons ti41_ok (TTok.cons ti42_ok (TTok.cons ti43_ok (TTok.cons ti44_ok (TTok.cons ti46_ok (TTok.cons ti47_ok (TTok.cons ti48_ok (TTok.cons ti50_ok (TTok.cons ti51_ok (TTok.cons ti52_ok (TTok.cons ti57_ok (TTok.cons ti58_ok (TTok.cons ti59_ok (TTok.cons ti61_ok (TTok.nil _)))))))))))))))))))))))))))))))))))))))
end Eng
end Go.Proofs.Ytgeakpeodhhffaa
