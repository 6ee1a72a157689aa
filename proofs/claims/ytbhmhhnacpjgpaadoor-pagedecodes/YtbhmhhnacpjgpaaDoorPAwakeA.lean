/- The chapter's examples: awake answers true, and changes nothing that was there. -/
import Derived.Test.YtbhmhhnacpjgpaaDoorPEnc
import Derived.Test.YtbhmhhnacpjgpaaDoorPDecX
namespace Go.Proofs.YtbhmhhnacpjgpaaDoor
open Go.RowKit

set_option maxRecDepth 100000 in
theorem aw_z0 : (List.replicate 127 (0 : UInt8)).foldl (fun c (b : UInt8) => sby 8 (bits BinOp.xor IntKind.u32 c ((b.toNat : Int) % 4294967296))) 4294967295 = 2408625509 := by decide +kernel
set_option maxRecDepth 100000 in
theorem aw_z1 : (List.replicate 127 (0 : UInt8)).foldl (fun c (b : UInt8) => sby 8 (bits BinOp.xor IntKind.u32 c ((b.toNat : Int) % 4294967296))) 2408625509 = 2704700111 := by decide +kernel
set_option maxRecDepth 100000 in
theorem aw_z2 : (List.replicate 127 (0 : UInt8)).foldl (fun c (b : UInt8) => sby 8 (bits BinOp.xor IntKind.u32 c ((b.toNat : Int) % 4294967296))) 2704700111 = 177498411 := by decide +kernel
set_option maxRecDepth 100000 in
theorem aw_z3 : (List.replicate 127 (0 : UInt8)).foldl (fun c (b : UInt8) => sby 8 (bits BinOp.xor IntKind.u32 c ((b.toNat : Int) % 4294967296))) 177498411 = 4031025835 := by decide +kernel
theorem aw_to : sumTo (List.replicate 508 0) = 4031025835 := by
  rw [show (508 : Nat) = 127 + 127 + 127 + 127 from rfl, ← List.replicate_append_replicate, ← List.replicate_append_replicate, ← List.replicate_append_replicate]
  unfold sumTo
  rw [List.foldl_append, List.foldl_append, List.foldl_append, aw_z0, aw_z1, aw_z2, aw_z3]
theorem aw_zero : sum (List.replicate 508 0) ≠ 0 := by
  unfold sum
  rw [aw_to]
  decide +kernel
def awp : Pg := ⟨5, 2, 0, 0, ⟨#[]⟩, [⟨#[97, 98]⟩]⟩
theorem aw_size : awp.size = 24 := rfl
theorem aw_valid : awp.valid := ⟨⟨by decide, by decide, by decide, by decide, by decide, by decide, by decide⟩, ⟨by decide, by decide, by decide⟩, by decide⟩
theorem aw_out : awp.out = (awp.enc, 0) := out_ok aw_valid.rng aw_valid.fit
theorem aw_ext : (str awp.enc).extract 11 13 = ⟨#[5, 2]⟩ := by
  have e : bl ((str awp.enc).extract 11 13) = [5, 2] := by
    rw [ext_bl, bl_str]
    unfold Pg.enc
    have h1 : (bigF 4 (sum awp.body).toNat).length = 4 := bigF_len _ _
    rw [List.take_append, List.take_of_length_le (by omega), List.drop_append, List.drop_of_length_le (by omega), h1]
    decide
  rw [← str_bl ((str awp.enc).extract 11 13), e]
  rfl
theorem aw_dec : dec awp.enc = (awp, 0) := dec_enc _ aw_valid
theorem aw_none : dec (List.replicate 512 0) = (.none, 30) := by
  refine dec_sum List.length_replicate ?_
  rw [show (List.replicate 512 (0 : UInt8)).take 4 = [0, 0, 0, 0] from rfl, show (List.replicate 512 (0 : UInt8)).drop 4 = List.replicate 508 0 from rfl, show ofTo [0, 0, 0, 0] = 0 from rfl]
  exact fun e => aw_zero e.symm
end Go.Proofs.YtbhmhhnacpjgpaaDoor
