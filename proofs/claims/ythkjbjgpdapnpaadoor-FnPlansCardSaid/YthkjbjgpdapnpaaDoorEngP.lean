/- The program's types, for the symbolic run. -/
import Derived.Test.YthkjbjgpdapnpaaDoorRows
import Derived.Test.YthkjbjgpdapnpaaDoorEngV
import Derived.KernelRfl
namespace Go.Proofs.YthkjbjgpdapnpaaDoor
open Go.RowKit
namespace Eng
open Tr
def ti2 : TI := ⟨Go.TypeDesc.int Go.IntKind.i64, 1, 8, Go.Value.int Go.IntKind.i64 0, [], none⟩
theorem ti2_ok : TIok Tryd.prog 2 ti2 := ⟨Tryd.underlying2, by kernel_rfl, rfl, rfl, (fun _ h => nomatch h), (fun _ h => nomatch h)⟩
def ti3 : TI := ⟨Go.TypeDesc.int Go.IntKind.i64, 1, 8, Go.Value.int Go.IntKind.i64 0, [], none⟩
theorem ti3_ok : TIok Tryd.prog 3 ti3 := ⟨Tryd.underlying3, by kernel_rfl, rfl, rfl, (fun _ h => nomatch h), (fun _ h => nomatch h)⟩
def ti4 : TI := ⟨Go.TypeDesc.bool, 1, 1, Go.Value.bool false, [], none⟩
theorem ti4_ok : TIok Tryd.prog 4 ti4 := ⟨Tryd.underlying4, by kernel_rfl, rfl, rfl, (fun _ h => nomatch h), (fun _ h => nomatch h)⟩
def ti5 : TI := ⟨Go.TypeDesc.int Go.IntKind.u8, 1, 1, Go.Value.int Go.IntKind.u8 0, [], none⟩
theorem ti5_ok : TIok Tryd.prog 5 ti5 := ⟨Tryd.underlying5, by kernel_rfl, rfl, rfl, (fun _ h => nomatch h), (fun _ h => nomatch h)⟩
def ti6 : TI := ⟨Go.TypeDesc.int Go.IntKind.u8, 1, 1, Go.Value.int Go.IntKind.u8 0, [], none⟩
theorem ti6_ok : TIok Tryd.prog 6 ti6 := ⟨Tryd.underlying6, by kernel_rfl, rfl, rfl, (fun _ h => nomatch h), (fun _ h => nomatch h)⟩
def ti7 : TI := ⟨Go.TypeDesc.struct #[{ name := "x", type := 2, offset := 0, embedded := false, tag := "", pkgPath := "runtime", byteOffset := 0 }, { name := "y", type := 3, offset := 1, embedded := false, tag := "", pkgPath := "runtime", byteOffset := 8 }, { name := "signed", type := 4, offset := 2, embedded := false, tag := "", pkgPath := "runtime", byteOffset := 16 }, { name := "code", type := 6, offset := 3, embedded := false, tag := "", pkgPath := "runtime", byteOffset := 17 }], 4, 24, Go.Value.agg #[Go.Value.int Go.IntKind.i64 0, Go.Value.int Go.IntKind.i64 0, Go.Value.bool false, Go.Value.int Go.IntKind.u8 0], [(0, 1, false), (1, 1, false), (2, 1, false), (3, 1, false)], none⟩
theorem ti7_ok : TIok Tryd.prog 7 ti7 := ⟨Tryd.underlying7, by kernel_rfl, rfl, rfl, by rintro fields ⟨⟩; kernel_rfl, (fun _ h => nomatch h)⟩
def ti8 : TI := ⟨Go.TypeDesc.struct #[{ name := "x", type := 2, offset := 0, embedded := false, tag := "", pkgPath := "runtime", byteOffset := 0 }, { name := "y", type := 3, offset := 1, embedded := false, tag := "", pkgPath := "runtime", byteOffset := 8 }, { name := "signed", type := 4, offset := 2, embedded := false, tag := "", pkgPath := "runtime", byteOffset := 16 }, { name := "code", type := 6, offset := 3, embedded := false, tag := "", pkgPath := "runtime", byteOffset := 17 }], 4, 24, Go.Value.agg #[Go.Value.int Go.IntKind.i64 0, Go.Value.int Go.IntKind.i64 0, Go.Value.bool false, Go.Value.int Go.IntKind.u8 0], [(0, 1, false), (1, 1, false), (2, 1, false), (3, 1, false)], none⟩
theorem ti8_ok : TIok Tryd.prog 8 ti8 := ⟨Tryd.underlying8, by kernel_rfl, rfl, rfl, by rintro fields ⟨⟩; kernel_rfl, (fun _ h => nomatch h)⟩
def ti9 : TI := ⟨Go.TypeDesc.string, 1, 16, Go.Value.string { data := #[] }, [], none⟩
theorem ti9_ok : TIok Tryd.prog 9 ti9 := ⟨Tryd.underlying9, by kernel_rfl, rfl, rfl, (fun _ h => nomatch h), (fun _ h => nomatch h)⟩
def ti10 : TI := ⟨Go.TypeDesc.string, 1, 16, Go.Value.string { data := #[] }, [], none⟩
theorem ti10_ok : TIok Tryd.prog 10 ti10 := ⟨Tryd.underlying10, by kernel_rfl, rfl, rfl, (fun _ h => nomatch h), (fun _ h => nomatch h)⟩
def ti11 : TI := ⟨Go.TypeDesc.string, 1, 16, Go.Value.string { data := #[] }, [], none⟩
theorem ti11_ok : TIok Tryd.prog 11 ti11 := ⟨Tryd.underlying11, by kernel_rfl, rfl, rfl, (fun _ h => nomatch h), (fun _ h => nomatch h)⟩
def ti12 : TI := ⟨Go.TypeDesc.int Go.IntKind.u64, 1, 8, Go.Value.int Go.IntKind.u64 0, [], none⟩
theorem ti12_ok : TIok Tryd.prog 12 ti12 := ⟨Tryd.underlying12, by kernel_rfl, rfl, rfl, (fun _ h => nomatch h), (fun _ h => nomatch h)⟩
def ti13 : TI := ⟨Go.TypeDesc.struct #[{ name := "msg", type := 9, offset := 0, embedded := false, tag := "", pkgPath := "runtime", byteOffset := 0 }, { name := "addr", type := 12, offset := 1, embedded := false, tag := "", pkgPath := "runtime", byteOffset := 16 }], 2, 24, Go.Value.agg #[Go.Value.string { data := #[] }, Go.Value.int Go.IntKind.u64 0], [(0, 1, false), (1, 1, false)], none⟩
theorem ti13_ok : TIok Tryd.prog 13 ti13 := ⟨Tryd.underlying13, by kernel_rfl, rfl, rfl, by rintro fields ⟨⟩; kernel_rfl, (fun _ h => nomatch h)⟩
def ti14 : TI := ⟨Go.TypeDesc.struct #[{ name := "msg", type := 9, offset := 0, embedded := false, tag := "", pkgPath := "runtime", byteOffset := 0 }, { name := "addr", type := 12, offset := 1, embedded := false, tag := "", pkgPath := "runtime", byteOffset := 16 }], 2, 24, Go.Value.agg #[Go.Value.string { data := #[] }, Go.Value.int Go.IntKind.u64 0], [(0, 1, false), (1, 1, false)], none⟩
theorem ti14_ok : TIok Tryd.prog 14 ti14 := ⟨Tryd.underlying14, by kernel_rfl, rfl, rfl, by rintro fields ⟨⟩; kernel_rfl, (fun _ h => nomatch h)⟩
def ti15 : TI := ⟨Go.TypeDesc.pointer 76, 1, 8, Go.Value.pointer none, [], none⟩
theorem ti15_ok : TIok Tryd.prog 15 ti15 := ⟨Tryd.underlying15, by kernel_rfl, rfl, rfl, (fun _ h => nomatch h), (fun _ h => nomatch h)⟩
def ti16 : TI := ⟨Go.TypeDesc.pointer 79, 1, 8, Go.Value.pointer none, [], none⟩
theorem ti16_ok : TIok Tryd.prog 16 ti16 := ⟨Tryd.underlying16, by kernel_rfl, rfl, rfl, (fun _ h => nomatch h), (fun _ h => nomatch h)⟩
def ti17 : TI := ⟨Go.TypeDesc.pointer 88, 1, 8, Go.Value.pointer none, [], none⟩
theorem ti17_ok : TIok Tryd.prog 17 ti17 := ⟨Tryd.underlying17, by kernel_rfl, rfl, rfl, (fun _ h => nomatch h), (fun _ h => nomatch h)⟩
def ti18 : TI := ⟨Go.TypeDesc.struct #[{ name := "typ", type := 17, offset := 0, embedded := false, tag := "", pkgPath := "internal/runtime/maps", byteOffset := 0 }], 1, 8, Go.Value.agg #[Go.Value.pointer none], [(0, 1, false)], none⟩
theorem ti18_ok : TIok Tryd.prog 18 ti18 := ⟨Tryd.underlying18, by kernel_rfl, rfl, rfl, by rintro fields ⟨⟩; kernel_rfl, (fun _ h => nomatch h)⟩
def ti19 : TI := ⟨Go.TypeDesc.struct #[{ name := "typ", type := 17, offset := 0, embedded := false, tag := "", pkgPath := "internal/runtime/maps", byteOffset := 0 }], 1, 8, Go.Value.agg #[Go.Value.pointer none], [(0, 1, false)], none⟩
theorem ti19_ok : TIok Tryd.prog 19 ti19 := ⟨Tryd.underlying19, by kernel_rfl, rfl, rfl, by rintro fields ⟨⟩; kernel_rfl, (fun _ h => nomatch h)⟩
def ti21 : TI := ⟨Go.TypeDesc.int Go.IntKind.i32, 1, 4, Go.Value.int Go.IntKind.i32 0, [], none⟩
theorem ti21_ok : TIok Tryd.prog 21 ti21 := ⟨Tryd.underlying21, by kernel_rfl, rfl, rfl, (fun _ h => nomatch h), (fun _ h => nomatch h)⟩
def ti22 : TI := ⟨Go.TypeDesc.slice 5, 1, 24, Go.Value.slice none 0 0, [], none⟩
theorem ti22_ok : TIok Tryd.prog 22 ti22 := ⟨Tryd.underlying22, by kernel_rfl, rfl, rfl, (fun _ h => nomatch h), (fun _ h => nomatch h)⟩
def ti24 : TI := ⟨Go.TypeDesc.slice 35, 1, 24, Go.Value.slice none 0 0, [], none⟩
theorem ti24_ok : TIok Tryd.prog 24 ti24 := ⟨Tryd.underlying24, by kernel_rfl, rfl, rfl, (fun _ h => nomatch h), (fun _ h => nomatch h)⟩
def ti26 : TI := ⟨Go.TypeDesc.slice 3, 1, 24, Go.Value.slice none 0 0, [], none⟩
theorem ti26_ok : TIok Tryd.prog 26 ti26 := ⟨Tryd.underlying26, by kernel_rfl, rfl, rfl, (fun _ h => nomatch h), (fun _ h => nomatch h)⟩
def ti28 : TI := ⟨Go.TypeDesc.slice 38, 1, 24, Go.Value.slice none 0 0, [], none⟩
theorem ti28_ok : TIok Tryd.prog 28 ti28 := ⟨Tryd.underlying28, by kernel_rfl, rfl, rfl, (fun _ h => nomatch h), (fun _ h => nomatch h)⟩
def ti30 : TI := ⟨Go.TypeDesc.struct #[{ name := "Keep", type := 3, offset := 0, embedded := false, tag := "", pkgPath := "", byteOffset := 0 }, { name := "Move", type := 3, offset := 1, embedded := false, tag := "", pkgPath := "", byteOffset := 8 }, { name := "Cells", type := 26, offset := 2, embedded := false, tag := "", pkgPath := "", byteOffset := 16 }], 3, 40, Go.Value.agg #[Go.Value.int Go.IntKind.i64 0, Go.Value.int Go.IntKind.i64 0, Go.Value.slice none 0 0], [(0, 1, false), (1, 1, false), (2, 1, false)], none⟩
theorem ti30_ok : TIok Tryd.prog 30 ti30 := ⟨Tryd.underlying30, by kernel_rfl, rfl, rfl, by rintro fields ⟨⟩; kernel_rfl, (fun _ h => nomatch h)⟩
def ti31 : TI := ⟨Go.TypeDesc.struct #[{ name := "Keep", type := 3, offset := 0, embedded := false, tag := "", pkgPath := "", byteOffset := 0 }, { name := "Move", type := 3, offset := 1, embedded := false, tag := "", pkgPath := "", byteOffset := 8 }, { name := "Cells", type := 26, offset := 2, embedded := false, tag := "", pkgPath := "", byteOffset := 16 }], 3, 40, Go.Value.agg #[Go.Value.int Go.IntKind.i64 0, Go.Value.int Go.IntKind.i64 0, Go.Value.slice none 0 0], [(0, 1, false), (1, 1, false), (2, 1, false)], none⟩
theorem ti31_ok : TIok Tryd.prog 31 ti31 := ⟨Tryd.underlying31, by kernel_rfl, rfl, rfl, by rintro fields ⟨⟩; kernel_rfl, (fun _ h => nomatch h)⟩
def ti34 : TI := ⟨Go.TypeDesc.struct #[{ name := "Page", type := 3, offset := 0, embedded := false, tag := "", pkgPath := "", byteOffset := 0 }, { name := "Class", type := 3, offset := 1, embedded := false, tag := "", pkgPath := "", byteOffset := 8 }, { name := "Bits", type := 3, offset := 2, embedded := false, tag := "", pkgPath := "", byteOffset := 16 }], 3, 24, Go.Value.agg #[Go.Value.int Go.IntKind.i64 0, Go.Value.int Go.IntKind.i64 0, Go.Value.int Go.IntKind.i64 0], [(0, 1, false), (1, 1, false), (2, 1, false)], none⟩
theorem ti34_ok : TIok Tryd.prog 34 ti34 := ⟨Tryd.underlying34, by kernel_rfl, rfl, rfl, by rintro fields ⟨⟩; kernel_rfl, (fun _ h => nomatch h)⟩
def ti35 : TI := ⟨Go.TypeDesc.struct #[{ name := "Page", type := 3, offset := 0, embedded := false, tag := "", pkgPath := "", byteOffset := 0 }, { name := "Class", type := 3, offset := 1, embedded := false, tag := "", pkgPath := "", byteOffset := 8 }, { name := "Bits", type := 3, offset := 2, embedded := false, tag := "", pkgPath := "", byteOffset := 16 }], 3, 24, Go.Value.agg #[Go.Value.int Go.IntKind.i64 0, Go.Value.int Go.IntKind.i64 0, Go.Value.int Go.IntKind.i64 0], [(0, 1, false), (1, 1, false), (2, 1, false)], some [some .i64, some .i64, some .i64]⟩
theorem ti35_ok : TIok Tryd.prog 35 ti35 := ⟨Tryd.underlying35, by kernel_rfl, rfl, rfl, by rintro fields ⟨⟩; kernel_rfl, by rintro sh ⟨⟩; exact ⟨by kernel_rfl, by kernel_rfl, by kernel_rfl, by kernel_rfl⟩⟩
def ti37 : TI := ⟨Go.TypeDesc.struct #[{ name := "A", type := 3, offset := 0, embedded := false, tag := "", pkgPath := "", byteOffset := 0 }, { name := "B", type := 3, offset := 1, embedded := false, tag := "", pkgPath := "", byteOffset := 8 }], 2, 16, Go.Value.agg #[Go.Value.int Go.IntKind.i64 0, Go.Value.int Go.IntKind.i64 0], [(0, 1, false), (1, 1, false)], none⟩
theorem ti37_ok : TIok Tryd.prog 37 ti37 := ⟨Tryd.underlying37, by kernel_rfl, rfl, rfl, by rintro fields ⟨⟩; kernel_rfl, (fun _ h => nomatch h)⟩
def ti38 : TI := ⟨Go.TypeDesc.struct #[{ name := "A", type := 3, offset := 0, embedded := false, tag := "", pkgPath := "", byteOffset := 0 }, { name := "B", type := 3, offset := 1, embedded := false, tag := "", pkgPath := "", byteOffset := 8 }], 2, 16, Go.Value.agg #[Go.Value.int Go.IntKind.i64 0, Go.Value.int Go.IntKind.i64 0], [(0, 1, false), (1, 1, false)], some [some .i64, some .i64]⟩
theorem ti38_ok : TIok Tryd.prog 38 ti38 := ⟨Tryd.underlying38, by kernel_rfl, rfl, rfl, by rintro fields ⟨⟩; kernel_rfl, by rintro sh ⟨⟩; exact ⟨by kernel_rfl, by kernel_rfl, by kernel_rfl, by kernel_rfl⟩⟩
def ti45 : TI := ⟨Go.TypeDesc.struct #[{ name := "Page", type := 3, offset := 0, embedded := false, tag := "", pkgPath := "", byteOffset := 0 }, { name := "Class", type := 3, offset := 1, embedded := false, tag := "", pkgPath := "", byteOffset := 8 }, { name := "Bits", type := 3, offset := 2, embedded := false, tag := "", pkgPath := "", byteOffset := 16 }], 3, 24, Go.Value.agg #[Go.Value.int Go.IntKind.i64 0, Go.Value.int Go.IntKind.i64 0, Go.Value.int Go.IntKind.i64 0], [(0, 1, false), (1, 1, false), (2, 1, false)], some [some .i64, some .i64, some .i64]⟩
theorem ti45_ok : TIok Tryd.prog 45 ti45 := ⟨Tryd.underlying45, by kernel_rfl, rfl, rfl, by rintro fields ⟨⟩; kernel_rfl, by rintro sh ⟨⟩; exact ⟨by kernel_rfl, by kernel_rfl, by kernel_rfl, by kernel_rfl⟩⟩
def ti51 : TI := ⟨Go.TypeDesc.pointer 64, 1, 8, Go.Value.pointer none, [], none⟩
theorem ti51_ok : TIok Tryd.prog 51 ti51 := ⟨Tryd.underlying51, by kernel_rfl, rfl, rfl, (fun _ h => nomatch h), (fun _ h => nomatch h)⟩
def ti54 : TI := ⟨Go.TypeDesc.slice 4, 1, 24, Go.Value.slice none 0 0, [], none⟩
theorem ti54_ok : TIok Tryd.prog 54 ti54 := ⟨Tryd.underlying54, by kernel_rfl, rfl, rfl, (fun _ h => nomatch h), (fun _ h => nomatch h)⟩
def ti58 : TI := ⟨Go.TypeDesc.int Go.IntKind.u64, 1, 8, Go.Value.int Go.IntKind.u64 0, [], none⟩
theorem ti58_ok : TIok Tryd.prog 58 ti58 := ⟨Tryd.underlying58, by kernel_rfl, rfl, rfl, (fun _ h => nomatch h), (fun _ h => nomatch h)⟩
def ti63 : TI := ⟨Go.TypeDesc.struct #[{ name := "b", type := 22, offset := 0, embedded := false, tag := "", pkgPath := "loop.example/g00978/spec", byteOffset := 0 }, { name := "i", type := 3, offset := 1, embedded := false, tag := "", pkgPath := "loop.example/g00978/spec", byteOffset := 24 }, { name := "h", type := 3, offset := 2, embedded := false, tag := "", pkgPath := "loop.example/g00978/spec", byteOffset := 32 }], 3, 40, Go.Value.agg #[Go.Value.slice none 0 0, Go.Value.int Go.IntKind.i64 0, Go.Value.int Go.IntKind.i64 0], [(0, 1, false), (1, 1, false), (2, 1, false)], none⟩
theorem ti63_ok : TIok Tryd.prog 63 ti63 := ⟨Tryd.underlying63, by kernel_rfl, rfl, rfl, by rintro fields ⟨⟩; kernel_rfl, (fun _ h => nomatch h)⟩
def ti64 : TI := ⟨Go.TypeDesc.struct #[{ name := "b", type := 22, offset := 0, embedded := false, tag := "", pkgPath := "loop.example/g00978/spec", byteOffset := 0 }, { name := "i", type := 3, offset := 1, embedded := false, tag := "", pkgPath := "loop.example/g00978/spec", byteOffset := 24 }, { name := "h", type := 3, offset := 2, embedded := false, tag := "", pkgPath := "loop.example/g00978/spec", byteOffset := 32 }], 3, 40, Go.Value.agg #[Go.Value.slice none 0 0, Go.Value.int Go.IntKind.i64 0, Go.Value.int Go.IntKind.i64 0], [(0, 1, false), (1, 1, false), (2, 1, false)], none⟩
theorem ti64_ok : TIok Tryd.prog 64 ti64 := ⟨Tryd.underlying64, by kernel_rfl, rfl, rfl, by rintro fields ⟨⟩; kernel_rfl, (fun _ h => nomatch h)⟩
def ti67 : TI := ⟨Go.TypeDesc.array 4 3, 4, 32, Go.Value.agg #[Go.Value.int Go.IntKind.i64 0, Go.Value.int Go.IntKind.i64 0, Go.Value.int Go.IntKind.i64 0, Go.Value.int Go.IntKind.i64 0], [], none⟩
theorem ti67_ok : TIok Tryd.prog 67 ti67 := ⟨Tryd.underlying67, by kernel_rfl, rfl, rfl, (fun _ h => nomatch h), (fun _ h => nomatch h)⟩
def ti70 : TI := ⟨Go.TypeDesc.int Go.IntKind.u32, 1, 4, Go.Value.int Go.IntKind.u32 0, [], none⟩
theorem ti70_ok : TIok Tryd.prog 70 ti70 := ⟨Tryd.underlying70, by kernel_rfl, rfl, rfl, (fun _ h => nomatch h), (fun _ h => nomatch h)⟩
def ti72 : TI := ⟨Go.TypeDesc.int Go.IntKind.u64, 1, 8, Go.Value.int Go.IntKind.u64 0, [], none⟩
theorem ti72_ok : TIok Tryd.prog 72 ti72 := ⟨Tryd.underlying72, by kernel_rfl, rfl, rfl, (fun _ h => nomatch h), (fun _ h => nomatch h)⟩
def ti73 : TI := ⟨Go.TypeDesc.array 16 3, 16, 128, Go.Value.agg #[Go.Value.int Go.IntKind.i64 0, Go.Value.int Go.IntKind.i64 0, Go.Value.int Go.IntKind.i64 0, Go.Value.int Go.IntKind.i64 0, Go.Value.int Go.IntKind.i64 0, Go.Value.int Go.IntKind.i64 0, Go.Value.int Go.IntKind.i64 0, Go.Value.int Go.IntKind.i64 0, Go.Value.int Go.IntKind.i64 0, Go.Value.int Go.IntKind.i64 0, Go.Value.int Go.IntKind.i64 0, Go.Value.int Go.IntKind.i64 0, Go.Value.int Go.IntKind.i64 0, Go.Value.int Go.IntKind.i64 0, Go.Value.int Go.IntKind.i64 0, Go.Value.int Go.IntKind.i64 0], [], none⟩
theorem ti73_ok : TIok Tryd.prog 73 ti73 := ⟨Tryd.underlying73, by kernel_rfl, rfl, rfl, (fun _ h => nomatch h), (fun _ h => nomatch h)⟩
def ti75 : TI := ⟨Go.TypeDesc.struct #[{ name := "_interface", type := 17, offset := 0, embedded := false, tag := "", pkgPath := "runtime", byteOffset := 0 }, { name := "concrete", type := 17, offset := 1, embedded := false, tag := "", pkgPath := "runtime", byteOffset := 8 }, { name := "asserted", type := 17, offset := 2, embedded := false, tag := "", pkgPath := "runtime", byteOffset := 16 }, { name := "missingMethod", type := 9, offset := 3, embedded := false, tag := "", pkgPath := "runtime", byteOffset := 24 }], 4, 40, Go.Value.agg #[Go.Value.pointer none, Go.Value.pointer none, Go.Value.pointer none, Go.Value.string { data := #[] }], [(0, 1, false), (1, 1, false), (2, 1, false), (3, 1, false)], none⟩
theorem ti75_ok : TIok Tryd.prog 75 ti75 := ⟨Tryd.underlying75, by kernel_rfl, rfl, rfl, by rintro fields ⟨⟩; kernel_rfl, (fun _ h => nomatch h)⟩
def ti76 : TI := ⟨Go.TypeDesc.struct #[{ name := "_interface", type := 17, offset := 0, embedded := false, tag := "", pkgPath := "runtime", byteOffset := 0 }, { name := "concrete", type := 17, offset := 1, embedded := false, tag := "", pkgPath := "runtime", byteOffset := 8 }, { name := "asserted", type := 17, offset := 2, embedded := false, tag := "", pkgPath := "runtime", byteOffset := 16 }, { name := "missingMethod", type := 9, offset := 3, embedded := false, tag := "", pkgPath := "runtime", byteOffset := 24 }], 4, 40, Go.Value.agg #[Go.Value.pointer none, Go.Value.pointer none, Go.Value.pointer none, Go.Value.string { data := #[] }], [(0, 1, false), (1, 1, false), (2, 1, false), (3, 1, false)], none⟩
theorem ti76_ok : TIok Tryd.prog 76 ti76 := ⟨Tryd.underlying76, by kernel_rfl, rfl, rfl, by rintro fields ⟨⟩; kernel_rfl, (fun _ h => nomatch h)⟩
def ti77 : TI := ⟨Go.TypeDesc.array 0 16, 0, 0, Go.Value.agg #[], [], none⟩
theorem ti77_ok : TIok Tryd.prog 77 ti77 := ⟨Tryd.underlying77, by kernel_rfl, rfl, rfl, (fun _ h => nomatch h), (fun _ h => nomatch h)⟩
def ti78 : TI := ⟨Go.TypeDesc.struct #[{ name := "_", type := 77, offset := 0, embedded := false, tag := "", pkgPath := "runtime", byteOffset := 0 }], 0, 0, Go.Value.agg #[], [(0, 0, true)], none⟩
theorem ti78_ok : TIok Tryd.prog 78 ti78 := ⟨Tryd.underlying78, by kernel_rfl, rfl, rfl, by rintro fields ⟨⟩; kernel_rfl, (fun _ h => nomatch h)⟩
def ti79 : TI := ⟨Go.TypeDesc.struct #[{ name := "_", type := 77, offset := 0, embedded := false, tag := "", pkgPath := "runtime", byteOffset := 0 }], 0, 0, Go.Value.agg #[], [(0, 0, true)], none⟩
theorem ti79_ok : TIok Tryd.prog 79 ti79 := ⟨Tryd.underlying79, by kernel_rfl, rfl, rfl, by rintro fields ⟨⟩; kernel_rfl, (fun _ h => nomatch h)⟩
def ti81 : TI := ⟨Go.TypeDesc.int Go.IntKind.u8, 1, 1, Go.Value.int Go.IntKind.u8 0, [], none⟩
theorem ti81_ok : TIok Tryd.prog 81 ti81 := ⟨Tryd.underlying81, by kernel_rfl, rfl, rfl, (fun _ h => nomatch h), (fun _ h => nomatch h)⟩
def ti82 : TI := ⟨Go.TypeDesc.int Go.IntKind.u8, 1, 1, Go.Value.int Go.IntKind.u8 0, [], none⟩
theorem ti82_ok : TIok Tryd.prog 82 ti82 := ⟨Tryd.underlying82, by kernel_rfl, rfl, rfl, (fun _ h => nomatch h), (fun _ h => nomatch h)⟩
def ti84 : TI := ⟨Go.TypeDesc.pointer 5, 1, 8, Go.Value.pointer none, [], none⟩
theorem ti84_ok : TIok Tryd.prog 84 ti84 := ⟨Tryd.underlying84, by kernel_rfl, rfl, rfl, (fun _ h => nomatch h), (fun _ h => nomatch h)⟩
def ti85 : TI := ⟨Go.TypeDesc.int Go.IntKind.i32, 1, 4, Go.Value.int Go.IntKind.i32 0, [], none⟩
theorem ti85_ok : TIok Tryd.prog 85 ti85 := ⟨Tryd.underlying85, by kernel_rfl, rfl, rfl, (fun _ h => nomatch h), (fun _ h => nomatch h)⟩
def ti86 : TI := ⟨Go.TypeDesc.int Go.IntKind.i32, 1, 4, Go.Value.int Go.IntKind.i32 0, [], none⟩
theorem ti86_ok : TIok Tryd.prog 86 ti86 := ⟨Tryd.underlying86, by kernel_rfl, rfl, rfl, (fun _ h => nomatch h), (fun _ h => nomatch h)⟩
def tt : TT := [(2, ti2), (3, ti3), (4, ti4), (5, ti5), (6, ti6), (7, ti7), (8, ti8), (9, ti9), (10, ti10), (11, ti11), (12, ti12), (13, ti13), (14, ti14), (15, ti15), (16, ti16), (17, ti17), (18, ti18), (19, ti19), (21, ti21), (22, ti22), (24, ti24), (26, ti26), (28, ti28), (30, ti30), (31, ti31), (34, ti34), (35, ti35), (37, ti37), (38, ti38), (45, ti45), (51, ti51), (54, ti54), (58, ti58), (63, ti63), (64, ti64), (67, ti67), (70, ti70), (72, ti72), (73, ti73), (75, ti75), (76, ti76), (77, ti77), (78, ti78), (79, ti79), (81, ti81), (82, ti82), (84, ti84), (85, ti85), (86, ti86)]
theorem tt_ok : TTok Tryd.prog tt := TTok.cons ti2_ok (TTok.cons ti3_ok (TTok.cons ti4_ok (TTok.cons ti5_ok (TTok.cons ti6_ok (TTok.cons ti7_ok (TTok.cons ti8_ok (TTok.cons ti9_ok (TTok.cons ti10_ok (TTok.cons ti11_ok (TTok.cons ti12_ok (TTok.cons ti13_ok (TTok.cons ti14_ok (TTok.cons ti15_ok (TTok.cons ti16_ok (TTok.cons ti17_ok (TTok.cons ti18_ok (TTok.cons ti19_ok (TTok.cons ti21_ok (TTok.cons ti22_ok (TTok.cons ti24_ok (TTok.cons ti26_ok (TTok.cons ti28_ok (TTok.cons ti30_ok (TTok.cons ti31_ok (TTok.cons ti34_ok (TTok.cons ti35_ok (TTok.cons ti37_ok (TTok.cons ti38_ok (TTok.cons ti45_ok (TTok.cons ti51_ok (TTok.cons ti54_ok (TTok.cons ti58_ok (TTok.cons ti63_ok (TTok.cons ti64_ok (TTok.cons ti67_ok (TTok.cons ti70_ok (TTok.cons ti72_ok (TTok.cons ti73_ok (TTok.cons ti75_ok (TTok.cons ti76_ok (TTok.cons ti77_ok (TTok.cons ti78_ok (TTok.cons ti79_ok (TTok.cons ti81_ok (TTok.cons ti82_ok (TTok.cons ti84_ok (TTok.cons ti85_ok (TTok.cons ti86_ok (TTok.nil _)))))))))))))))))))))))))))))))))))))))))))))))))
end Eng
end Go.Proofs.YthkjbjgpdapnpaaDoor
