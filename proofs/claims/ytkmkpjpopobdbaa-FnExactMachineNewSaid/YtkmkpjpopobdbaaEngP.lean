/- The program's types, for the symbolic run. -/
import Derived.Test.YtkmkpjpopobdbaaRows
import Derived.Test.YtkmkpjpopobdbaaEngV
import Derived.KernelRfl
namespace Go.Proofs.Ytkmkpjpopobdbaa
open Go.RowKit
namespace Eng
open Tr
def ti2 : TI := ⟨Go.TypeDesc.int Go.IntKind.i64, 1, 8, Go.Value.int Go.IntKind.i64 0, [], none⟩
theorem ti2_ok : TIok Try.prog 2 ti2 := ⟨Try.underlying2, by kernel_rfl, rfl, rfl, (fun _ h => nomatch h), (fun _ h => nomatch h)⟩
def ti3 : TI := ⟨Go.TypeDesc.int Go.IntKind.i64, 1, 8, Go.Value.int Go.IntKind.i64 0, [], none⟩
theorem ti3_ok : TIok Try.prog 3 ti3 := ⟨Try.underlying3, by kernel_rfl, rfl, rfl, (fun _ h => nomatch h), (fun _ h => nomatch h)⟩
def ti4 : TI := ⟨Go.TypeDesc.bool, 1, 1, Go.Value.bool false, [], none⟩
theorem ti4_ok : TIok Try.prog 4 ti4 := ⟨Try.underlying4, by kernel_rfl, rfl, rfl, (fun _ h => nomatch h), (fun _ h => nomatch h)⟩
def ti5 : TI := ⟨Go.TypeDesc.int Go.IntKind.u8, 1, 1, Go.Value.int Go.IntKind.u8 0, [], none⟩
theorem ti5_ok : TIok Try.prog 5 ti5 := ⟨Try.underlying5, by kernel_rfl, rfl, rfl, (fun _ h => nomatch h), (fun _ h => nomatch h)⟩
def ti6 : TI := ⟨Go.TypeDesc.int Go.IntKind.u8, 1, 1, Go.Value.int Go.IntKind.u8 0, [], none⟩
theorem ti6_ok : TIok Try.prog 6 ti6 := ⟨Try.underlying6, by kernel_rfl, rfl, rfl, (fun _ h => nomatch h), (fun _ h => nomatch h)⟩
def ti7 : TI := ⟨Go.TypeDesc.struct #[{ name := "x", type := 2, offset := 0, embedded := false, tag := "", pkgPath := "runtime", byteOffset := 0 }, { name := "y", type := 3, offset := 1, embedded := false, tag := "", pkgPath := "runtime", byteOffset := 8 }, { name := "signed", type := 4, offset := 2, embedded := false, tag := "", pkgPath := "runtime", byteOffset := 16 }, { name := "code", type := 6, offset := 3, embedded := false, tag := "", pkgPath := "runtime", byteOffset := 17 }], 4, 24, Go.Value.agg #[Go.Value.int Go.IntKind.i64 0, Go.Value.int Go.IntKind.i64 0, Go.Value.bool false, Go.Value.int Go.IntKind.u8 0], [(0, 1, false), (1, 1, false), (2, 1, false), (3, 1, false)], none⟩
theorem ti7_ok : TIok Try.prog 7 ti7 := ⟨Try.underlying7, by kernel_rfl, rfl, rfl, by rintro fields ⟨⟩; kernel_rfl, (fun _ h => nomatch h)⟩
def ti8 : TI := ⟨Go.TypeDesc.struct #[{ name := "x", type := 2, offset := 0, embedded := false, tag := "", pkgPath := "runtime", byteOffset := 0 }, { name := "y", type := 3, offset := 1, embedded := false, tag := "", pkgPath := "runtime", byteOffset := 8 }, { name := "signed", type := 4, offset := 2, embedded := false, tag := "", pkgPath := "runtime", byteOffset := 16 }, { name := "code", type := 6, offset := 3, embedded := false, tag := "", pkgPath := "runtime", byteOffset := 17 }], 4, 24, Go.Value.agg #[Go.Value.int Go.IntKind.i64 0, Go.Value.int Go.IntKind.i64 0, Go.Value.bool false, Go.Value.int Go.IntKind.u8 0], [(0, 1, false), (1, 1, false), (2, 1, false), (3, 1, false)], none⟩
theorem ti8_ok : TIok Try.prog 8 ti8 := ⟨Try.underlying8, by kernel_rfl, rfl, rfl, by rintro fields ⟨⟩; kernel_rfl, (fun _ h => nomatch h)⟩
def ti9 : TI := ⟨Go.TypeDesc.string, 1, 16, Go.Value.string { data := #[] }, [], none⟩
theorem ti9_ok : TIok Try.prog 9 ti9 := ⟨Try.underlying9, by kernel_rfl, rfl, rfl, (fun _ h => nomatch h), (fun _ h => nomatch h)⟩
def ti10 : TI := ⟨Go.TypeDesc.string, 1, 16, Go.Value.string { data := #[] }, [], none⟩
theorem ti10_ok : TIok Try.prog 10 ti10 := ⟨Try.underlying10, by kernel_rfl, rfl, rfl, (fun _ h => nomatch h), (fun _ h => nomatch h)⟩
def ti11 : TI := ⟨Go.TypeDesc.string, 1, 16, Go.Value.string { data := #[] }, [], none⟩
theorem ti11_ok : TIok Try.prog 11 ti11 := ⟨Try.underlying11, by kernel_rfl, rfl, rfl, (fun _ h => nomatch h), (fun _ h => nomatch h)⟩
def ti12 : TI := ⟨Go.TypeDesc.int Go.IntKind.u64, 1, 8, Go.Value.int Go.IntKind.u64 0, [], none⟩
theorem ti12_ok : TIok Try.prog 12 ti12 := ⟨Try.underlying12, by kernel_rfl, rfl, rfl, (fun _ h => nomatch h), (fun _ h => nomatch h)⟩
def ti13 : TI := ⟨Go.TypeDesc.struct #[{ name := "msg", type := 9, offset := 0, embedded := false, tag := "", pkgPath := "runtime", byteOffset := 0 }, { name := "addr", type := 12, offset := 1, embedded := false, tag := "", pkgPath := "runtime", byteOffset := 16 }], 2, 24, Go.Value.agg #[Go.Value.string { data := #[] }, Go.Value.int Go.IntKind.u64 0], [(0, 1, false), (1, 1, false)], none⟩
theorem ti13_ok : TIok Try.prog 13 ti13 := ⟨Try.underlying13, by kernel_rfl, rfl, rfl, by rintro fields ⟨⟩; kernel_rfl, (fun _ h => nomatch h)⟩
def ti14 : TI := ⟨Go.TypeDesc.struct #[{ name := "msg", type := 9, offset := 0, embedded := false, tag := "", pkgPath := "runtime", byteOffset := 0 }, { name := "addr", type := 12, offset := 1, embedded := false, tag := "", pkgPath := "runtime", byteOffset := 16 }], 2, 24, Go.Value.agg #[Go.Value.string { data := #[] }, Go.Value.int Go.IntKind.u64 0], [(0, 1, false), (1, 1, false)], none⟩
theorem ti14_ok : TIok Try.prog 14 ti14 := ⟨Try.underlying14, by kernel_rfl, rfl, rfl, by rintro fields ⟨⟩; kernel_rfl, (fun _ h => nomatch h)⟩
def ti15 : TI := ⟨Go.TypeDesc.pointer 87, 1, 8, Go.Value.pointer none, [], none⟩
theorem ti15_ok : TIok Try.prog 15 ti15 := ⟨Try.underlying15, by kernel_rfl, rfl, rfl, (fun _ h => nomatch h), (fun _ h => nomatch h)⟩
def ti16 : TI := ⟨Go.TypeDesc.pointer 90, 1, 8, Go.Value.pointer none, [], none⟩
theorem ti16_ok : TIok Try.prog 16 ti16 := ⟨Try.underlying16, by kernel_rfl, rfl, rfl, (fun _ h => nomatch h), (fun _ h => nomatch h)⟩
def ti17 : TI := ⟨Go.TypeDesc.pointer 100, 1, 8, Go.Value.pointer none, [], none⟩
theorem ti17_ok : TIok Try.prog 17 ti17 := ⟨Try.underlying17, by kernel_rfl, rfl, rfl, (fun _ h => nomatch h), (fun _ h => nomatch h)⟩
def ti18 : TI := ⟨Go.TypeDesc.struct #[{ name := "typ", type := 17, offset := 0, embedded := false, tag := "", pkgPath := "internal/runtime/maps", byteOffset := 0 }], 1, 8, Go.Value.agg #[Go.Value.pointer none], [(0, 1, false)], none⟩
theorem ti18_ok : TIok Try.prog 18 ti18 := ⟨Try.underlying18, by kernel_rfl, rfl, rfl, by rintro fields ⟨⟩; kernel_rfl, (fun _ h => nomatch h)⟩
def ti19 : TI := ⟨Go.TypeDesc.struct #[{ name := "typ", type := 17, offset := 0, embedded := false, tag := "", pkgPath := "internal/runtime/maps", byteOffset := 0 }], 1, 8, Go.Value.agg #[Go.Value.pointer none], [(0, 1, false)], none⟩
theorem ti19_ok : TIok Try.prog 19 ti19 := ⟨Try.underlying19, by kernel_rfl, rfl, rfl, by rintro fields ⟨⟩; kernel_rfl, (fun _ h => nomatch h)⟩
def ti21 : TI := ⟨Go.TypeDesc.int Go.IntKind.i32, 1, 4, Go.Value.int Go.IntKind.i32 0, [], none⟩
theorem ti21_ok : TIok Try.prog 21 ti21 := ⟨Try.underlying21, by kernel_rfl, rfl, rfl, (fun _ h => nomatch h), (fun _ h => nomatch h)⟩
def ti22 : TI := ⟨Go.TypeDesc.slice 58, 1, 24, Go.Value.slice none 0 0, [], none⟩
theorem ti22_ok : TIok Try.prog 22 ti22 := ⟨Try.underlying22, by kernel_rfl, rfl, rfl, (fun _ h => nomatch h), (fun _ h => nomatch h)⟩
def ti23 : TI := ⟨Go.TypeDesc.slice 4, 1, 24, Go.Value.slice none 0 0, [], none⟩
theorem ti23_ok : TIok Try.prog 23 ti23 := ⟨Try.underlying23, by kernel_rfl, rfl, rfl, (fun _ h => nomatch h), (fun _ h => nomatch h)⟩
def ti24 : TI := ⟨Go.TypeDesc.struct #[{ name := "Cells", type := 22, offset := 0, embedded := false, tag := "", pkgPath := "", byteOffset := 0 }, { name := "Used", type := 23, offset := 1, embedded := false, tag := "", pkgPath := "", byteOffset := 24 }], 2, 48, Go.Value.agg #[Go.Value.slice none 0 0, Go.Value.slice none 0 0], [(0, 1, false), (1, 1, false)], none⟩
theorem ti24_ok : TIok Try.prog 24 ti24 := ⟨Try.underlying24, by kernel_rfl, rfl, rfl, by rintro fields ⟨⟩; kernel_rfl, (fun _ h => nomatch h)⟩
def ti25 : TI := ⟨Go.TypeDesc.struct #[{ name := "Cells", type := 22, offset := 0, embedded := false, tag := "", pkgPath := "", byteOffset := 0 }, { name := "Used", type := 23, offset := 1, embedded := false, tag := "", pkgPath := "", byteOffset := 24 }], 2, 48, Go.Value.agg #[Go.Value.slice none 0 0, Go.Value.slice none 0 0], [(0, 1, false), (1, 1, false)], none⟩
theorem ti25_ok : TIok Try.prog 25 ti25 := ⟨Try.underlying25, by kernel_rfl, rfl, rfl, by rintro fields ⟨⟩; kernel_rfl, (fun _ h => nomatch h)⟩
def ti26 : TI := ⟨Go.TypeDesc.slice 72, 1, 24, Go.Value.slice none 0 0, [], none⟩
theorem ti26_ok : TIok Try.prog 26 ti26 := ⟨Try.underlying26, by kernel_rfl, rfl, rfl, (fun _ h => nomatch h), (fun _ h => nomatch h)⟩
def ti27 : TI := ⟨Go.TypeDesc.struct #[{ name := "Entries", type := 26, offset := 0, embedded := false, tag := "", pkgPath := "", byteOffset := 0 }], 1, 24, Go.Value.agg #[Go.Value.slice none 0 0], [(0, 1, false)], none⟩
theorem ti27_ok : TIok Try.prog 27 ti27 := ⟨Try.underlying27, by kernel_rfl, rfl, rfl, by rintro fields ⟨⟩; kernel_rfl, (fun _ h => nomatch h)⟩
def ti28 : TI := ⟨Go.TypeDesc.struct #[{ name := "Entries", type := 26, offset := 0, embedded := false, tag := "", pkgPath := "", byteOffset := 0 }], 1, 24, Go.Value.agg #[Go.Value.slice none 0 0], [(0, 1, false)], none⟩
theorem ti28_ok : TIok Try.prog 28 ti28 := ⟨Try.underlying28, by kernel_rfl, rfl, rfl, by rintro fields ⟨⟩; kernel_rfl, (fun _ h => nomatch h)⟩
def ti29 : TI := ⟨Go.TypeDesc.struct #[{ name := "Frames", type := 25, offset := 0, embedded := false, tag := "", pkgPath := "", byteOffset := 0 }, { name := "Table", type := 28, offset := 2, embedded := false, tag := "", pkgPath := "", byteOffset := 48 }], 3, 72, Go.Value.agg #[Go.Value.slice none 0 0, Go.Value.slice none 0 0, Go.Value.slice none 0 0], [(0, 2, true), (2, 1, true)], none⟩
theorem ti29_ok : TIok Try.prog 29 ti29 := ⟨Try.underlying29, by kernel_rfl, rfl, rfl, by rintro fields ⟨⟩; kernel_rfl, (fun _ h => nomatch h)⟩
def ti30 : TI := ⟨Go.TypeDesc.struct #[{ name := "Frames", type := 25, offset := 0, embedded := false, tag := "", pkgPath := "", byteOffset := 0 }, { name := "Table", type := 28, offset := 2, embedded := false, tag := "", pkgPath := "", byteOffset := 48 }], 3, 72, Go.Value.agg #[Go.Value.slice none 0 0, Go.Value.slice none 0 0, Go.Value.slice none 0 0], [(0, 2, true), (2, 1, true)], none⟩
theorem ti30_ok : TIok Try.prog 30 ti30 := ⟨Try.underlying30, by kernel_rfl, rfl, rfl, by rintro fields ⟨⟩; kernel_rfl, (fun _ h => nomatch h)⟩
def ti36 : TI := ⟨Go.TypeDesc.struct #[{ name := "Cells", type := 22, offset := 0, embedded := false, tag := "", pkgPath := "", byteOffset := 0 }, { name := "Used", type := 23, offset := 1, embedded := false, tag := "", pkgPath := "", byteOffset := 24 }], 2, 48, Go.Value.agg #[Go.Value.slice none 0 0, Go.Value.slice none 0 0], [(0, 1, false), (1, 1, false)], none⟩
theorem ti36_ok : TIok Try.prog 36 ti36 := ⟨Try.underlying36, by kernel_rfl, rfl, rfl, by rintro fields ⟨⟩; kernel_rfl, (fun _ h => nomatch h)⟩
def ti37 : TI := ⟨Go.TypeDesc.slice 83, 1, 24, Go.Value.slice none 0 0, [], none⟩
theorem ti37_ok : TIok Try.prog 37 ti37 := ⟨Try.underlying37, by kernel_rfl, rfl, rfl, (fun _ h => nomatch h), (fun _ h => nomatch h)⟩
def ti38 : TI := ⟨Go.TypeDesc.struct #[{ name := "Entries", type := 37, offset := 0, embedded := false, tag := "", pkgPath := "", byteOffset := 0 }], 1, 24, Go.Value.agg #[Go.Value.slice none 0 0], [(0, 1, false)], none⟩
theorem ti38_ok : TIok Try.prog 38 ti38 := ⟨Try.underlying38, by kernel_rfl, rfl, rfl, by rintro fields ⟨⟩; kernel_rfl, (fun _ h => nomatch h)⟩
def ti39 : TI := ⟨Go.TypeDesc.struct #[{ name := "Entries", type := 37, offset := 0, embedded := false, tag := "", pkgPath := "", byteOffset := 0 }], 1, 24, Go.Value.agg #[Go.Value.slice none 0 0], [(0, 1, false)], none⟩
theorem ti39_ok : TIok Try.prog 39 ti39 := ⟨Try.underlying39, by kernel_rfl, rfl, rfl, by rintro fields ⟨⟩; kernel_rfl, (fun _ h => nomatch h)⟩
def ti40 : TI := ⟨Go.TypeDesc.struct #[{ name := "Frames", type := 36, offset := 0, embedded := false, tag := "", pkgPath := "", byteOffset := 0 }, { name := "Table", type := 39, offset := 2, embedded := false, tag := "", pkgPath := "", byteOffset := 48 }], 3, 72, Go.Value.agg #[Go.Value.slice none 0 0, Go.Value.slice none 0 0, Go.Value.slice none 0 0], [(0, 2, true), (2, 1, true)], none⟩
theorem ti40_ok : TIok Try.prog 40 ti40 := ⟨Try.underlying40, by kernel_rfl, rfl, rfl, by rintro fields ⟨⟩; kernel_rfl, (fun _ h => nomatch h)⟩
def ti41 : TI := ⟨Go.TypeDesc.struct #[{ name := "Frames", type := 36, offset := 0, embedded := false, tag := "", pkgPath := "", byteOffset := 0 }, { name := "Table", type := 39, offset := 2, embedded := false, tag := "", pkgPath := "", byteOffset := 48 }], 3, 72, Go.Value.agg #[Go.Value.slice none 0 0, Go.Value.slice none 0 0, Go.Value.slice none 0 0], [(0, 2, true), (2, 1, true)], none⟩
theorem ti41_ok : TIok Try.prog 41 ti41 := ⟨Try.underlying41, by kernel_rfl, rfl, rfl, by rintro fields ⟨⟩; kernel_rfl, (fun _ h => nomatch h)⟩
def ti58 : TI := ⟨Go.TypeDesc.slice 3, 1, 24, Go.Value.slice none 0 0, [], none⟩
theorem ti58_ok : TIok Try.prog 58 ti58 := ⟨Try.underlying58, by kernel_rfl, rfl, rfl, (fun _ h => nomatch h), (fun _ h => nomatch h)⟩
def ti71 : TI := ⟨Go.TypeDesc.struct #[{ name := "Mode", type := 3, offset := 0, embedded := false, tag := "", pkgPath := "", byteOffset := 0 }, { name := "Frame", type := 3, offset := 1, embedded := false, tag := "", pkgPath := "", byteOffset := 8 }], 2, 16, Go.Value.agg #[Go.Value.int Go.IntKind.i64 0, Go.Value.int Go.IntKind.i64 0], [(0, 1, false), (1, 1, false)], none⟩
theorem ti71_ok : TIok Try.prog 71 ti71 := ⟨Try.underlying71, by kernel_rfl, rfl, rfl, by rintro fields ⟨⟩; kernel_rfl, (fun _ h => nomatch h)⟩
def ti72 : TI := ⟨Go.TypeDesc.struct #[{ name := "Mode", type := 3, offset := 0, embedded := false, tag := "", pkgPath := "", byteOffset := 0 }, { name := "Frame", type := 3, offset := 1, embedded := false, tag := "", pkgPath := "", byteOffset := 8 }], 2, 16, Go.Value.agg #[Go.Value.int Go.IntKind.i64 0, Go.Value.int Go.IntKind.i64 0], [(0, 1, false), (1, 1, false)], some [some .i64, some .i64]⟩
theorem ti72_ok : TIok Try.prog 72 ti72 := ⟨Try.underlying72, by kernel_rfl, rfl, rfl, by rintro fields ⟨⟩; kernel_rfl, by rintro sh ⟨⟩; exact ⟨by kernel_rfl, by kernel_rfl, by kernel_rfl, by kernel_rfl⟩⟩
def ti83 : TI := ⟨Go.TypeDesc.struct #[{ name := "Mode", type := 3, offset := 0, embedded := false, tag := "", pkgPath := "", byteOffset := 0 }, { name := "Frame", type := 3, offset := 1, embedded := false, tag := "", pkgPath := "", byteOffset := 8 }], 2, 16, Go.Value.agg #[Go.Value.int Go.IntKind.i64 0, Go.Value.int Go.IntKind.i64 0], [(0, 1, false), (1, 1, false)], some [some .i64, some .i64]⟩
theorem ti83_ok : TIok Try.prog 83 ti83 := ⟨Try.underlying83, by kernel_rfl, rfl, rfl, by rintro fields ⟨⟩; kernel_rfl, by rintro sh ⟨⟩; exact ⟨by kernel_rfl, by kernel_rfl, by kernel_rfl, by kernel_rfl⟩⟩
def ti86 : TI := ⟨Go.TypeDesc.struct #[{ name := "_interface", type := 17, offset := 0, embedded := false, tag := "", pkgPath := "runtime", byteOffset := 0 }, { name := "concrete", type := 17, offset := 1, embedded := false, tag := "", pkgPath := "runtime", byteOffset := 8 }, { name := "asserted", type := 17, offset := 2, embedded := false, tag := "", pkgPath := "runtime", byteOffset := 16 }, { name := "missingMethod", type := 9, offset := 3, embedded := false, tag := "", pkgPath := "runtime", byteOffset := 24 }], 4, 40, Go.Value.agg #[Go.Value.pointer none, Go.Value.pointer none, Go.Value.pointer none, Go.Value.string { data := #[] }], [(0, 1, false), (1, 1, false), (2, 1, false), (3, 1, false)], none⟩
theorem ti86_ok : TIok Try.prog 86 ti86 := ⟨Try.underlying86, by kernel_rfl, rfl, rfl, by rintro fields ⟨⟩; kernel_rfl, (fun _ h => nomatch h)⟩
def ti87 : TI := ⟨Go.TypeDesc.struct #[{ name := "_interface", type := 17, offset := 0, embedded := false, tag := "", pkgPath := "runtime", byteOffset := 0 }, { name := "concrete", type := 17, offset := 1, embedded := false, tag := "", pkgPath := "runtime", byteOffset := 8 }, { name := "asserted", type := 17, offset := 2, embedded := false, tag := "", pkgPath := "runtime", byteOffset := 16 }, { name := "missingMethod", type := 9, offset := 3, embedded := false, tag := "", pkgPath := "runtime", byteOffset := 24 }], 4, 40, Go.Value.agg #[Go.Value.pointer none, Go.Value.pointer none, Go.Value.pointer none, Go.Value.string { data := #[] }], [(0, 1, false), (1, 1, false), (2, 1, false), (3, 1, false)], none⟩
theorem ti87_ok : TIok Try.prog 87 ti87 := ⟨Try.underlying87, by kernel_rfl, rfl, rfl, by rintro fields ⟨⟩; kernel_rfl, (fun _ h => nomatch h)⟩
def ti88 : TI := ⟨Go.TypeDesc.array 0 16, 0, 0, Go.Value.agg #[], [], none⟩
theorem ti88_ok : TIok Try.prog 88 ti88 := ⟨Try.underlying88, by kernel_rfl, rfl, rfl, (fun _ h => nomatch h), (fun _ h => nomatch h)⟩
def ti89 : TI := ⟨Go.TypeDesc.struct #[{ name := "_", type := 88, offset := 0, embedded := false, tag := "", pkgPath := "runtime", byteOffset := 0 }], 0, 0, Go.Value.agg #[], [(0, 0, true)], none⟩
theorem ti89_ok : TIok Try.prog 89 ti89 := ⟨Try.underlying89, by kernel_rfl, rfl, rfl, by rintro fields ⟨⟩; kernel_rfl, (fun _ h => nomatch h)⟩
def ti90 : TI := ⟨Go.TypeDesc.struct #[{ name := "_", type := 88, offset := 0, embedded := false, tag := "", pkgPath := "runtime", byteOffset := 0 }], 0, 0, Go.Value.agg #[], [(0, 0, true)], none⟩
theorem ti90_ok : TIok Try.prog 90 ti90 := ⟨Try.underlying90, by kernel_rfl, rfl, rfl, by rintro fields ⟨⟩; kernel_rfl, (fun _ h => nomatch h)⟩
def ti92 : TI := ⟨Go.TypeDesc.int Go.IntKind.u32, 1, 4, Go.Value.int Go.IntKind.u32 0, [], none⟩
theorem ti92_ok : TIok Try.prog 92 ti92 := ⟨Try.underlying92, by kernel_rfl, rfl, rfl, (fun _ h => nomatch h), (fun _ h => nomatch h)⟩
def ti93 : TI := ⟨Go.TypeDesc.int Go.IntKind.u8, 1, 1, Go.Value.int Go.IntKind.u8 0, [], none⟩
theorem ti93_ok : TIok Try.prog 93 ti93 := ⟨Try.underlying93, by kernel_rfl, rfl, rfl, (fun _ h => nomatch h), (fun _ h => nomatch h)⟩
def ti94 : TI := ⟨Go.TypeDesc.int Go.IntKind.u8, 1, 1, Go.Value.int Go.IntKind.u8 0, [], none⟩
theorem ti94_ok : TIok Try.prog 94 ti94 := ⟨Try.underlying94, by kernel_rfl, rfl, rfl, (fun _ h => nomatch h), (fun _ h => nomatch h)⟩
def ti96 : TI := ⟨Go.TypeDesc.pointer 5, 1, 8, Go.Value.pointer none, [], none⟩
theorem ti96_ok : TIok Try.prog 96 ti96 := ⟨Try.underlying96, by kernel_rfl, rfl, rfl, (fun _ h => nomatch h), (fun _ h => nomatch h)⟩
def ti97 : TI := ⟨Go.TypeDesc.int Go.IntKind.i32, 1, 4, Go.Value.int Go.IntKind.i32 0, [], none⟩
theorem ti97_ok : TIok Try.prog 97 ti97 := ⟨Try.underlying97, by kernel_rfl, rfl, rfl, (fun _ h => nomatch h), (fun _ h => nomatch h)⟩
def ti98 : TI := ⟨Go.TypeDesc.int Go.IntKind.i32, 1, 4, Go.Value.int Go.IntKind.i32 0, [], none⟩
theorem ti98_ok : TIok Try.prog 98 ti98 := ⟨Try.underlying98, by kernel_rfl, rfl, rfl, (fun _ h => nomatch h), (fun _ h => nomatch h)⟩
def tt : TT := [(2, ti2), (3, ti3), (4, ti4), (5, ti5), (6, ti6), (7, ti7), (8, ti8), (9, ti9), (10, ti10), (11, ti11), (12, ti12), (13, ti13), (14, ti14), (15, ti15), (16, ti16), (17, ti17), (18, ti18), (19, ti19), (21, ti21), (22, ti22), (23, ti23), (24, ti24), (25, ti25), (26, ti26), (27, ti27), (28, ti28), (29, ti29), (30, ti30), (36, ti36), (37, ti37), (38, ti38), (39, ti39), (40, ti40), (41, ti41), (58, ti58), (71, ti71), (72, ti72), (83, ti83), (86, ti86), (87, ti87), (88, ti88), (89, ti89), (90, ti90), (92, ti92), (93, ti93), (94, ti94), (96, ti96), (97, ti97), (98, ti98)]
theorem tt_ok : TTok Try.prog tt := TTok.cons ti2_ok (TTok.cons ti3_ok (TTok.cons ti4_ok (TTok.cons ti5_ok (TTok.cons ti6_ok (TTok.cons ti7_ok (TTok.cons ti8_ok (TTok.cons ti9_ok (TTok.cons ti10_ok (TTok.cons ti11_ok (TTok.cons ti12_ok (TTok.cons ti13_ok (TTok.cons ti14_ok (TTok.cons ti15_ok (TTok.cons ti16_ok (TTok.cons ti17_ok (TTok.cons ti18_ok (TTok.cons ti19_ok (TTok.cons ti21_ok (TTok.cons ti22_ok (TTok.cons ti23_ok (TTok.cons ti24_ok (TTok.cons ti25_ok (TTok.cons ti26_ok (TTok.cons ti27_ok (TTok.cons ti28_ok (TTok.cons ti29_ok (TTok.cons ti30_ok (TTok.cons ti36_ok (TTok.cons ti37_ok (TTok.cons ti38_ok (TTok.cons ti39_ok (TTok.cons ti40_ok (TTok.cons ti41_ok (TTok.cons ti58_ok (TTok.cons ti71_ok (TTok.cons ti72_ok (TTok.cons ti83_ok (TTok.cons ti86_ok (TTok.cons ti87_ok (TTok.cons ti88_ok (TTok.cons ti89_ok (TTok.cons ti90_ok (TTok.cons ti92_ok (TTok.cons ti93_ok (TTok.cons ti94_ok (TTok.cons ti96_ok (TTok.cons ti97_ok (TTok.cons ti98_ok (TTok.nil _)))))))))))))))))))))))))))))))))))))))))))))))))
end Eng
end Go.Proofs.Ytkmkpjpopobdbaa
