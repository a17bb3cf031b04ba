/- What both programs answer to strings and lists: pairs of contracts. -/
import Derived.Test.YtbnoomogdbnheaaL02
namespace Go
namespace Ytbnoomogdbnheaa
open RowKit
/-- The value reads as these bytes in every world that has kept the blocks from 'base' on. -/
def HeldB (base : Nat) (w : World) (v : Value) (l : List Int) : Prop := ∀ wx : World, (∀ k, base ≤ k → k < w.heap.size → wx.heap[k]? = w.heap[k]?) → w.heap.size ≤ wx.heap.size → RdB wx v l
def HeldI (base : Nat) (w : World) (v : Value) (n : Nat) (F : List Int) : Prop := ∀ wx : World, (∀ k, base ≤ k → k < w.heap.size → wx.heap[k]? = w.heap[k]?) → w.heap.size ≤ wx.heap.size → RdI wx v n F
theorem heldB_own {base : Nat} {E : TypeId} {w : World} {v : Value} {l : List Int} (h : OwnB base E w v l) : HeldB base w v l := fun wx h1 h2 => by
  refine OwnB.rd (base := base) (E := E) ⟨h.1, ?_⟩
  rcases h.2 with hn | ⟨g, cap, cur, rfl, hb, hg, rest⟩
  · exact .inl hn
  · exact .inr ⟨g, cap, cur, rfl, hb, (h1 g hb (Array.getElem?_eq_some_iff.1 hg).1).trans hg, rest⟩
theorem heldI_own {base : Nat} {E : TypeId} {w : World} {v : Value} {n : Nat} {F : List Int} (h : OwnI base E w v n F) : HeldI base w v n F := fun wx h1 h2 => by
  refine OwnI.rd (base := base) (E := E) ⟨h.1, ?_⟩
  rcases h.2 with hn | ⟨g, cap, cur, rfl, hb, hg, rest⟩
  · exact .inl hn
  · exact .inr ⟨g, cap, cur, rfl, hb, (h1 g hb (Array.getElem?_eq_some_iff.1 hg).1).trans hg, rest⟩
theorem heldB_nil (base : Nat) (w : World) : HeldB base w (.slice none 0 0) [] := fun _ _ _ => .inl ⟨none, 0, rfl, fun _ => rfl, rfl⟩
theorem heldI_nil (base : Nat) (w : World) : HeldI base w (.slice none 0 0) 0 [] := fun _ _ _ => .inl ⟨none, 0, rfl, fun _ => rfl, rfl, rfl⟩
theorem heldB_mono {base : Nat} {w w' : World} {v : Value} {l : List Int} (h : HeldB base w v l) (hb : Below w.heap.size w w') : HeldB base w' v l := fun wx h1 h2 =>
  h wx (fun k k1 k2 => (h1 k k1 (Nat.lt_of_lt_of_le k2 hb.size)).trans (hb.block k k2)) (Nat.le_trans hb.size h2)
theorem heldI_mono {base : Nat} {w w' : World} {v : Value} {n : Nat} {F : List Int} (h : HeldI base w v n F) (hb : Below w.heap.size w w') : HeldI base w' v n F := fun wx h1 h2 =>
  h wx (fun k k1 k2 => (h1 k k1 (Nat.lt_of_lt_of_le k2 hb.size)).trans (hb.block k k2)) (Nat.le_trans hb.size h2)
theorem heldB_lower {base B : Nat} {w : World} {v : Value} {l : List Int} (h : HeldB B w v l) (hb : base ≤ B) : HeldB base w v l := fun wx h1 h2 => h wx (fun k k1 k2 => h1 k (Nat.le_trans hb k1) k2) h2
theorem heldI_lower {base B : Nat} {w : World} {v : Value} {n : Nat} {F : List Int} (h : HeldI B w v n F) (hb : base ≤ B) : HeldI base w v n F := fun wx h1 h2 => h wx (fun k k1 k2 => h1 k (Nat.le_trans hb k1) k2) h2
theorem draws_trans {a b c : World} (h1 : Draws a b) (h2 : Draws b c) : Draws a c := by
  obtain ⟨n, rfl⟩ := h1
  obtain ⟨m, rfl⟩ := h2
  exact ⟨n + m, by rw [World.drewN_drewN]⟩
end Ytbnoomogdbnheaa
end Go
namespace Go.Proofs.Ytbnoomogdbnheaa
open Go.RowKit Go.Ytbnoomogdbnheaa
set_option linter.unusedVariables false
theorem heldB_row {w : World} {g : Nat} {cs : List Int} {E : TypeId} (hg : w.heap[g]? = some (.cells (u8s cs) E (0, 0))) (n : Nat) (hn : cs.length = n) (hm : n ≤ maxLen) {B : Nat} (hB : B ≤ g) : HeldB B w (.slice (some ⟨g, 0, none⟩) n n) cs := heldB_own (ownB_row hg n hn hm hB)
theorem heldI_row {w : World} {g : Nat} {F : List Int} {E : TypeId} (hg : w.heap[g]? = some (.cells (u8s F) E (0, 0))) (n : Nat) (hF : F.length = 32 * n) (hn : n ≤ 1000000) {B : Nat} (hB : B ≤ g) : HeldI B w (.slice (some ⟨g, 0, none⟩) n n) n F := fun wx h1 h2 =>
  rdI_row ((h1 g hB (Array.getElem?_eq_some_iff.1 hg).1).trans hg) n hF hn
structure BytesPair (b : List Int) where
  (L : List Int) (E : Int)
  len : L.length ≤ 20000
  one : ∀ v wi, RdB wi v b → Calls Try.prog 12 #[v] wi fun e w' => ∃ r, e = .returned (.tuple #[r, .int .i64 E]) ∧ HeldB wi.heap.size w' r L ∧ Below wi.heap.size wi w'
  two : ∀ v wi, RdB wi v b → Calls Try.prog 27 #[v] wi fun e w' => ∃ r, e = .returned (.tuple #[r, .int .i64 E]) ∧ HeldB wi.heap.size w' r L ∧ Below wi.heap.size wi w'
theorem bytes_pair (b : List Int) (hb : b.length ≤ 12000) : Nonempty (BytesPair b) := by
  by_cases h : b.length ≤ 10000
  · have hL := numL_le b.length (by omega)
    have hT := textB_length b
    exact ⟨{ L := textB b, E := 0, len := by omega
             one := fun v wi hr => (bytes_any v b wi hr h).mono fun e w' ⟨g, h1, h2, h3, h4⟩ => ⟨_, h1, heldB_row h3 _ rfl (by unfold maxLen; omega) h2, h4⟩
             two := fun v wi hr => (rbytes_ok v b wi hr h).mono fun e w' ⟨r, h1, h2, h3⟩ => ⟨r, h1, heldB_own h2, h3⟩ }⟩
  · exact ⟨{ L := [], E := 4, len := by simp
             one := fun v wi hr => by
               obtain ⟨a, c, rfl⟩ := hr.slice
               exact (bytes_many a b.length c wi (by omega)).mono fun e w' ⟨h1, h2⟩ => ⟨_, h1, heldB_nil _ _, by subst h2; exact Below.refl _ _⟩
             two := fun v wi hr => by
               obtain ⟨a, c, rfl⟩ := hr.slice
               exact (rbytes_many a b.length c wi (by omega)).mono fun e w' ⟨h1, h2⟩ => ⟨_, h1, heldB_nil _ _, by subst h2; exact Below.refl _ _⟩ }⟩
structure ReadPair (b : List Int) (most : Int) where
  (L : List Int) (U E : Int)
  len : L.length ≤ 20000
  one : ∀ v wi, RdB wi v b → Calls Try.prog 13 #[v, .int .i64 most] wi fun e w' => ∃ r, e = .returned (.tuple #[r, .int .i64 U, .int .i64 E]) ∧ HeldB wi.heap.size w' r L ∧ Below wi.heap.size wi w'
  two : ∀ v wi, RdB wi v b → Calls Try.prog 28 #[v, .int .i64 most] wi fun e w' => ∃ r, e = .returned (.tuple #[r, .int .i64 U, .int .i64 E]) ∧ HeldB wi.heap.size w' r L ∧ Below wi.heap.size wi w'
theorem read_pair (b : List Int) (hbb : Bytes b) (hb : b.length ≤ 12000) (most : Int) (hmx : most ≤ 9223372036854775807) : Nonempty (ReadPair b most) := by
  by_cases hm : most < 0
  · exact ⟨{ L := [], U := 0, E := 2, len := by simp
             one := fun v wi hr => (readBytes_arg v most hm wi).mono fun e w' ⟨h1, h2⟩ => ⟨_, h1, heldB_nil _ _, by subst h2; exact Below.refl _ _⟩
             two := fun v wi hr => (rreadBytes_arg v most hm wi).mono fun e w' ⟨h1, h2⟩ => ⟨_, h1, heldB_nil _ _, by subst h2; exact Below.refl _ _⟩ }⟩
  · cases hc : readC b most 1 with
    | none =>
      exact ⟨{ L := [], U := 0, E := 12, len := by simp
               one := fun v wi hr => (readBytes_no b v most (by omega) hmx wi hr hbb (by omega) hc).mono fun e w' ⟨h1, h2⟩ => ⟨_, h1, heldB_nil _ _, by subst h2; exact Below.refl _ _⟩
               two := fun v wi hr => (rreadBytes_no b v most (by omega) hmx wi hr hbb (by omega) hc).mono fun e w' ⟨h1, h2⟩ => ⟨_, h1, heldB_nil _ _, h2⟩ }⟩
    | some p =>
      obtain ⟨n, u⟩ := p
      have g2 := (readC_some hc).2.2
      have hl : ((b.drop u).take n).length ≤ 12000 := by rw [List.length_take, List.length_drop]; omega
      have hul := (readF_some hbb (readC_some hc).1).2.2.1
      have hln : ((b.drop u).take n).length = n := by rw [List.length_take, List.length_drop]; omega
      exact ⟨{ L := (b.drop u).take n, U := ((u + n : Nat) : Int), E := 0, len := by omega
               one := fun v wi hr => (readBytes_ok b v most (by omega) hmx wi hr hbb (by omega) n u hc).mono fun e w' ⟨h1, h2, h3⟩ => ⟨_, h1, heldB_row h2 n hln (by unfold maxLen; omega) (Nat.le_refl _), h3⟩
               two := fun v wi hr => (rreadBytes_ok b v most (by omega) hmx wi hr hbb (by omega) n u hc).mono fun e w' ⟨r, h1, h2, h3⟩ => ⟨r, h1, heldB_own h2, h3⟩ }⟩
structure IdsPair (n : Nat) (F : List Int) where
  (L : List Int) (E : Int)
  len : L.length ≤ 20000
  one : ∀ v wi, RdI wi v n F → Calls Try.prog 14 #[v] wi fun e w' => ∃ r, e = .returned (.tuple #[r, .int .i64 E]) ∧ HeldB wi.heap.size w' r L ∧ Below wi.heap.size wi w'
  two : ∀ v wi, RdI wi v n F → Calls Try.prog 29 #[v] wi fun e w' => ∃ r, e = .returned (.tuple #[r, .int .i64 E]) ∧ HeldB wi.heap.size w' r L ∧ Below wi.heap.size wi w'
theorem ids_pair (n : Nat) (F : List Int) (hF : F.length = 32 * n) (hFb : Bytes F) : Nonempty (IdsPair n F) := by
  by_cases h : n ≤ 60
  · have hL := numL_le n (by omega)
    have hT : (numB n ++ F).length = numL n + 32 * n := by rw [List.length_append, numB_length, hF]
    cases hri : riseF F n with
    | false =>
      exact ⟨{ L := [], E := 32, len := by simp
               one := fun v wi hr => (ids_order F n v wi hr hFb h hri).mono fun e w' ⟨h1, h2⟩ => ⟨_, h1, heldB_nil _ _, h2⟩
               two := fun v wi hr => (rids_order F n v wi hr hFb h hri).mono fun e w' ⟨h1, h2⟩ => ⟨_, h1, heldB_nil _ _, h2⟩ }⟩
    | true =>
      exact ⟨{ L := numB n ++ F, E := 0, len := by omega
               one := fun v wi hr => (ids_ok F n v wi hr hFb h hri).mono fun e w' ⟨g, h1, h2, h3, h4⟩ => ⟨_, h1, heldB_row h3 _ hT (by unfold maxLen; omega) h2, h4⟩
               two := fun v wi hr => (rids_ok F n v wi hr hFb h hri).mono fun e w' ⟨r, h1, h2, h3⟩ => ⟨r, h1, heldB_own h2, h3⟩ }⟩
  · exact ⟨{ L := [], E := 4, len := by simp
             one := fun v wi hr => by
               obtain ⟨a, c, rfl⟩ := hr.slice
               exact (ids_many a n c wi (by omega)).mono fun e w' ⟨h1, h2⟩ => ⟨_, h1, heldB_nil _ _, by subst h2; exact Below.refl _ _⟩
             two := fun v wi hr => by
               obtain ⟨a, c, rfl⟩ := hr.slice
               exact (rids_many a n c wi (by omega)).mono fun e w' ⟨h1, h2⟩ => ⟨_, h1, heldB_nil _ _, by subst h2; exact Below.refl _ _⟩ }⟩
structure ReadIPair (b : List Int) (most : Int) where
  (n : Nat) (F : List Int) (U E : Int)
  nle : n ≤ 100000
  one : ∀ v wi, RdB wi v b → Calls Try.prog 15 #[v, .int .i64 most] wi fun e w' => ∃ r, e = .returned (.tuple #[r, .int .i64 U, .int .i64 E]) ∧ HeldI wi.heap.size w' r n F ∧ Below wi.heap.size wi w'
  two : ∀ v wi, RdB wi v b → Calls Try.prog 30 #[v, .int .i64 most] wi fun e w' => ∃ r, e = .returned (.tuple #[r, .int .i64 U, .int .i64 E]) ∧ HeldI wi.heap.size w' r n F ∧ Below wi.heap.size wi w'
theorem readI_pair (b : List Int) (hbb : Bytes b) (hb : b.length ≤ 12000) (most : Int) (hmx : most ≤ 9223372036854775807) : Nonempty (ReadIPair b most) := by
  by_cases hm : most < 0
  · exact ⟨{ n := 0, F := [], U := 0, E := 2, nle := by omega
             one := fun v wi hr => (readIDs_arg v most hm wi).mono fun e w' ⟨h1, h2⟩ => ⟨_, h1, heldI_nil _ _, by subst h2; exact Below.refl _ _⟩
             two := fun v wi hr => (rreadIDs_arg v most hm wi).mono fun e w' ⟨h1, h2⟩ => ⟨_, h1, heldI_nil _ _, by subst h2; exact Below.refl _ _⟩ }⟩
  · cases hc : readC b most 32 with
    | none =>
      exact ⟨{ n := 0, F := [], U := 0, E := 12, nle := by omega
               one := fun v wi hr => (readIDs_no b v most (by omega) hmx wi hr hbb (by omega) hc).mono fun e w' ⟨h1, h2⟩ => ⟨_, h1, heldI_nil _ _, by subst h2; exact Below.refl _ _⟩
               two := fun v wi hr => (rreadIDs_no b v most (by omega) hmx wi hr hbb (by omega) hc).mono fun e w' ⟨h1, h2⟩ => ⟨_, h1, heldI_nil _ _, h2⟩ }⟩
    | some p =>
      obtain ⟨n, u⟩ := p
      have g2 := (readC_some hc).2.2
      have hul := (readF_some hbb (readC_some hc).1).2.2.1
      have hln : ((b.drop u).take (n * 32)).length = 32 * n := by rw [List.length_take, List.length_drop]; omega
      have h1 := fun v wi hr => readIDs_ok b v most (by omega) hmx wi hr hbb (by omega) n u hc
      have h2 := fun v wi hr => rreadIDs_ok b v most (by omega) hmx wi hr hbb (by omega) n u hc
      cases hri : riseF ((b.drop u).take (n * 32)) n with
      | false =>
        exact ⟨{ n := 0, F := [], U := 0, E := 12, nle := by omega
                 one := fun v wi hr => (h1 v wi hr).mono fun e w' h => by
                   unfold readIDsPost at h
                   rw [if_neg (by rw [hri]; decide)] at h
                   exact ⟨_, h.2, heldI_nil _ _, h.1⟩
                 two := fun v wi hr => (h2 v wi hr).mono fun e w' h => by
                   unfold rreadIDsPost at h
                   rw [if_neg (by rw [hri]; decide)] at h
                   exact ⟨_, h.2, heldI_nil _ _, h.1⟩ }⟩
      | true =>
        exact ⟨{ n := n, F := (b.drop u).take (n * 32), U := ((u + n * 32 : Nat) : Int), E := 0, nle := by omega
                 one := fun v wi hr => (h1 v wi hr).mono fun e w' h => by
                   unfold readIDsPost at h
                   rw [if_pos hri] at h
                   exact ⟨_, h.2.1, heldI_row h.2.2 n hln (by omega) (Nat.le_refl _), h.1⟩
                 two := fun v wi hr => (h2 v wi hr).mono fun e w' h => by
                   unfold rreadIDsPost at h
                   rw [if_pos hri] at h
                   obtain ⟨hb1, r, h3, h4⟩ := h
                   exact ⟨r, h3, heldI_own h4, hb1⟩ }⟩
end Go.Proofs.Ytbnoomogdbnheaa
