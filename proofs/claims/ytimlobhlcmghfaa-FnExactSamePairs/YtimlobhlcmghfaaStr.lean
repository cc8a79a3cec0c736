/-
  A slice of bytes turned into a text: which text, and when two of them are the same.
-/
import Derived.Test.YtimlobhlcmghfaaMem
import Derived.Laws.BytesArg
import Derived.Lib.Bytes
namespace Go.Proofs.Ytimlobhlcmghfaa
open Go.ChangeShapes Go.WideShapes Go.ChangeAt Go.RowKit

theorem conv_rd {w : World} {a : Option Addr} {len cap : Nat} {zs : List Int} (h : Rd w a len cap zs) : (convert 22 9 (.slice a len cap)).run Try.prog w = .ok (.string (strOfNums zs)) w := by
  have hs := Try.underlying22
  have he := Try.underlying5
  have hd := Try.underlying9
  cases a with
  | none =>
    obtain ⟨rfl, rfl⟩ := h.nil rfl
    obtain rfl : zs = [] := List.length_eq_zero_iff.1 h.length
    rw [run_convert_bytes_nil w _ _ hs he _ _ _ hd]
    rfl
  | some x =>
    rcases h.cells with h0 | ⟨b, off, e, hc⟩
    · subst h0
      obtain rfl : zs = [] := List.length_eq_zero_iff.1 h.length
      have hl : (loadCells x 0).run Try.prog w = .ok (([] : List Int).map (Value.int .u8)).toArray w := by
        have := run_loadCells_list (P := Try.prog) w x [] (by simp)
        simpa using this
      rw [run_convert_bytes_string w _ _ _ _ 0 cap hs he hd, run_bytesToString w x 0 cap [] hl, foldl_push_bytes]
      simp [strOfNums, ByteArray.empty, ByteArray.emptyWithCapacity]
      rfl
    · cases e
      exact run_convert_bytes_arg w _ _ hs he b off len cap zs h.length hc _ hd

theorem nums_back {zs : List Int} (h : B8 zs) : (zs.map fun n => UInt8.ofNat n.toNat).map (fun b => (b.toNat : Int)) = zs := by
  rw [List.map_map]
  conv => rhs; rw [← List.map_id zs]
  apply List.map_congr_left
  intro n hn
  have := h n hn
  simp only [Function.comp_apply, UInt8.toNat_ofNat', id_eq]
  omega
theorem str_inj {za zb : List Int} (ha : B8 za) (hb : B8 zb) (h : strOfNums za = strOfNums zb) : za = zb := by
  have : (strOfNums za).data.toList = (strOfNums zb).data.toList := by rw [h]
  rw [strOfNums_data, strOfNums_data] at this
  rw [← nums_back ha, ← nums_back hb, this]
theorem str_ne {za zb : List Int} (ha : B8 za) (hb : B8 zb) (h : ¬ za = zb) : ((strOfNums za).toList == (strOfNums zb).toList) = false := by
  rw [Lib.strOfNums_toList, Lib.strOfNums_toList]
  have : ¬ Lib.bytesOf za = Lib.bytesOf zb := fun e => h (by rw [← nums_back ha, ← nums_back hb]; exact congrArg _ e)
  simpa using this
end Go.Proofs.Ytimlobhlcmghfaa
