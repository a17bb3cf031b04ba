/- The comparison of bytes, said of lists of integers. -/
import Derived.Test.YtfncepfjnljhlaaDoorLibC
import Derived.Test.YtfncepfjnljhlaaDoorM01b
import Derived.Lib.BytesEntry
import Derived.Lib.Bytealg
namespace Go
namespace YtfncepfjnljhlaaDoor
open RowKit
def cmpF : List Int → List Int → Int
  | [], [] => 0
  | [], _ :: _ => -1
  | _ :: _, [] => 1
  | a :: as, b :: bs => if a < b then -1 else if b < a then 1 else cmpF as bs
theorem bytes_tail {a : Int} {l : List Int} (h : Bytes (a :: l)) : (0 ≤ a ∧ a < 256) ∧ Bytes l := by
  refine ⟨by simpa [ith] using h 0, fun i => by simpa [ith] using h (i + 1)⟩
theorem toU8_lt (a b : Int) (ha : 0 ≤ a ∧ a < 256) (hb : 0 ≤ b ∧ b < 256) : (a.toNat.toUInt8 < b.toNat.toUInt8) ↔ a < b := by
  rw [UInt8.lt_iff_toNat_lt]
  have h1 : a.toNat.toUInt8.toNat = a.toNat := by simp; omega
  have h2 : b.toNat.toUInt8.toNat = b.toNat := by simp; omega
  rw [h1, h2]; omega
theorem compareBytes_eq : ∀ (a b : List Int), Bytes a → Bytes b → Lib.compareBytes (Lib.bytesOf a) (Lib.bytesOf b) = cmpF a b
  | [], [], _, _ => rfl
  | [], _ :: _, _, _ => rfl
  | _ :: _, [], _, _ => rfl
  | a :: as, b :: bs, ha, hb => by
    obtain ⟨a0, a1⟩ := bytes_tail ha
    obtain ⟨b0, b1⟩ := bytes_tail hb
    have h := compareBytes_eq as bs a1 b1
    have e1 : Lib.bytesOf (a :: as) = a.toNat.toUInt8 :: Lib.bytesOf as := rfl
    have e2 : Lib.bytesOf (b :: bs) = b.toNat.toUInt8 :: Lib.bytesOf bs := rfl
    rw [e1, e2]
    simp only [Lib.compareBytes, cmpF, toU8_lt a b a0 b0, toU8_lt b a b0 a0, h]
theorem RdB.load {P : Program} {w : World} {v : Value} {l : List Int} (h : RdB w v l) : (Extern.Bytes.bytesOf v).run P w = .ok ⟨(Lib.bytesOf l).toArray⟩ w := by
  rcases h with ⟨sa, sc, rfl, hsn, rfl⟩ | ⟨b, o, c, rfl, h1, h2, h3, h4⟩
  · cases sa with
    | none => obtain rfl := hsn rfl; rfl
    | some sa => rfl
  · have h := Lib.run_loadBytesX (P := P) (w := w) l ⟨b, o, none⟩ .empty (fun j x hx => by
      have hj : j < l.length := by
        rcases Nat.lt_or_ge j l.length with h' | h'
        · exact h'
        · rw [List.getElem?_eq_none h'] at hx; cases hx
      have : ith l j = x := by simp [ith, hx]
      rw [addr_add, h4 j hj, this])
    change (Extern.Bytes.loadBytes _ _ _).run P w = _
    rw [h]
    simp
theorem run_compareB {P : Program} {w : World} {va vb : Value} {a b : List Int} (ha : RdB w va a) (hb : RdB w vb b) (h1 : Bytes a) (h2 : Bytes b) :
    (Extern.BytealgCompare.compare #[va, vb]).run P w = .ok (.int .i64 (cmpF a b)) w := by
  change Sem.run P (do pure (goInt (Extern.BytealgCompare.cmp (← Extern.Bytes.bytesOf va) (← Extern.Bytes.bytesOf vb)))) w = _
  simp only [Sem.run_bind, ha.load, hb.load, Result.andThen, Sem.run_pure, Lib.cmp_eq]
  rw [compareBytes_eq a b h1 h2]
  rfl
def nthL (L : List (List Int)) (i : Nat) : List Int := L[i]?.getD []
/-- The value 'v' is a slice of slices of bytes that reads as 'L'. -/
def RdL (w : World) (v : Value) (L : List (List Int)) : Prop :=
  (v = .slice none 0 0 ∧ L = []) ∨ ∃ b o c, v = .slice (some ⟨b, o, none⟩) L.length c ∧ L.length ≤ c ∧ c ≤ maxLen ∧ b < w.heap.size ∧ ∀ i, i < L.length → ∃ s, w.cell? ⟨b, o + i, none⟩ = some s ∧ RdB w s (nthL L i)
theorem RdL.mono {w w' : World} {v : Value} {L : List (List Int)} (h : RdL w v L) (hb : Below w.heap.size w w') : RdL w' v L := by
  rcases h with h | ⟨b, o, c, hv, h1, h2, h3, h4⟩
  · exact .inl h
  · refine .inr ⟨b, o, c, hv, h1, h2, Nat.lt_of_lt_of_le h3 hb.size, fun i hi => ?_⟩
    obtain ⟨s, hs, hr⟩ := h4 i hi
    exact ⟨s, (hb.cell (p := (⟨b, o + i, none⟩ : Addr)) h3).trans hs, hr.mono hb⟩
theorem RdL.slice {w : World} {v : Value} {L : List (List Int)} (h : RdL w v L) : ∃ a c, v = .slice a L.length c := by
  rcases h with ⟨rfl, rfl⟩ | ⟨b, o, c, hv, _⟩
  · exact ⟨none, 0, rfl⟩
  · exact ⟨_, c, hv⟩
def flatN (L : List (List Int)) : Nat → List Int
  | 0 => []
  | k + 1 => flatN L k ++ nthL L k
theorem flatN_all (L : List (List Int)) : flatN L L.length = L.flatten := by
  have h : ∀ k, k ≤ L.length → flatN L k = (L.take k).flatten := by
    intro k hk
    induction k with
    | zero => simp [flatN]
    | succ k ih =>
      rw [flatN, ih (by omega), List.take_succ_eq_append_getElem (by omega), List.flatten_append]
      simp [nthL, List.getElem?_eq_getElem (show k < L.length by omega)]
  rw [h _ (Nat.le_refl _), List.take_length]
theorem flatN_bytes (L : List (List Int)) (h : ∀ i, Bytes (nthL L i)) (k : Nat) : Bytes (flatN L k) := by
  induction k with
  | zero => exact bytes_nil
  | succ k ih => exact bytes_append _ _ ih (h k)
theorem flatN_length (L : List (List Int)) (h : ∀ i, (nthL L i).length ≤ 10000) (k : Nat) : (flatN L k).length ≤ 10000 * k := by
  induction k with
  | zero => simp [flatN]
  | succ k ih => rw [flatN, List.length_append]; have := h k; omega
end YtfncepfjnljhlaaDoor
end Go
