/- Layer 7: contracts of the laws' own functions: is, refused. -/
import Derived.Test.YtegffpjhdodldaaF12
import Derived.Test.YtegffpjhdodldaaL02
namespace Go.Proofs.Ytegffpjhdodldaa
open Go.RowKit Go.Ytegffpjhdodldaa
set_option linter.unusedVariables false
theorem ans_none {b : List Int} (h : parseF b = none) {w w' : World} {e : Ending} (hp : parsePost w b e w') : e = .returned (.tuple #[.agg ((kF 0).c (.slice none 0 0) (.slice none 0 0)), .int .i64 12]) ∧ Below w.heap.size w w' :=
  ⟨hp.2.1 h, hp.1⟩
theorem ans_some {b : List Int} {f : Fr} (h : parseF b = some f) {w w' : World} {e : Ending} (hp : parsePost w b e w') : ∃ ia ic oa oc, e = .returned (.tuple #[.agg (f.c (.slice ia f.n ic) (.slice oa f.L.length oc)), .int .i64 0]) ∧ HeldI w.heap.size w' (.slice ia f.n ic) f.n f.F ∧ HeldS w.heap.size w' (.slice oa f.L.length oc) f.L ∧ Below w.heap.size w w' := by
  obtain ⟨iv, ov, h1, h2, h3⟩ := hp.2.2 f h
  obtain ⟨ia, ic, rfl⟩ := (heldI_rd h2).slice
  obtain ⟨oa, oc, rfl⟩ := (heldS_rd h3).slice
  exact ⟨ia, ic, oa, oc, h1, h2, h3, hp.1⟩
theorem sameFr_me (f : Fr) : sameFr f f = true := sameFr_all rfl rfl (sameF_self _) rfl
set_option maxHeartbeats 2000000 in
set_option maxRecDepth 100000 in
theorem refused_any (b : List Int) (hb : Bytes b) (hn : parseF b = none) (bv : Value) (w : World) (hr : RdB w bv b) :
    Calls Try.prog 26 #[bv] w fun e w' => e = .returned (.bool true) ∧ Below w.heap.size w w' := by
  have hP := Lib.hid ((parse_any b bv w hr hb).mono fun e w' hp => ans_none hn hp)
  obtain ⟨ba, bc, rfl⟩ := hr.slice
  clear hr hn hb
  go_enter Try.func26, Try.ntmps26
  go_wp2_with (go_at_call 19; (with_reducible refine (hP.out).mono ?_); rintro e w3 ⟨rfl, h3⟩; have hB := Lib.hid h3; clear h3)
  go_ret
  exact ⟨rfl, hB.out.alloc hB.out.size _⟩
set_option maxHeartbeats 2000000 in
set_option maxRecDepth 100000 in
theorem is_any (f : Fr) (ff : f.Fit) (h0 : frOk f = true) (hby : Bytes (frB f)) (iv ov bv : Value) (w : World) (hi : RdI w iv f.n f.F) (ho : RdS w ov f.L) (hr : RdB w bv (frB f)) :
    Calls Try.prog 27 #[.agg (f.c iv ov), bv] w fun e w' => e = .returned (.bool true) ∧ Below w.heap.size w w' := by
  obtain ⟨W, hW⟩ : ∃ W, W = w.alloc (.cells (f.c iv ov) 26) := ⟨_, rfl⟩
  have hr0 := heap_alloc_new w (.cells (f.c iv ov) 26)
  have hb0 := (Below.refl w.heap.size w).alloc (Nat.le_refl _) (.cells (f.c iv ov) 26)
  rw [← hW] at hr0 hb0
  obtain ⟨ia, ic, rfl⟩ := hi.slice
  obtain ⟨oa, oc, rfl⟩ := ho.slice
  obtain ⟨ba, bc, rfl⟩ := hr.slice
  have hlt := (Array.getElem?_eq_some_iff.1 hr0).1
  have hrows := Lib.hid (fun (wz : World) (h : Below W.heap.size W wz) => rowB hr0 h hlt)
  have hb1 := Lib.hid hb0
  have hB := Lib.hid (Below.refl W.heap.size W)
  have hIr := Lib.hid (fun (wz : World) (h : Below W.heap.size W wz) => (hi.mono hb0).mono h)
  have hOr := Lib.hid (fun (wz : World) (h : Below W.heap.size W wz) => (ho.mono hb0).mono h)
  have hBr := Lib.hid (fun (wz : World) (h : Below W.heap.size W wz) => (hr.mono hb0).mono h)
  have hE := Lib.hid (fun (wz : World) (h : Below W.heap.size W wz) => (frEncode_ok f ff h0 _ _ wz (hIr.out wz h) (hOr.out wz h)).mono fun e w' q => (show ∃ sa sc, e = .returned (.tuple #[.slice sa (frB f).length sc, .int .i64 0]) ∧ RdB w' (.slice sa (frB f).length sc) (frB f) ∧ Below wz.heap.size wz w' from by
    obtain ⟨sv, q1, q2, q3⟩ := q
    obtain ⟨sa, sc, rfl⟩ := q2.rd.slice
    exact ⟨sa, sc, q1, q2.rd, q3⟩))
  have hP := Lib.hid (fun (wz : World) (h : Below W.heap.size W wz) => (parse_any (frB f) _ wz (hBr.out wz h) hby).mono fun e w' hp => ans_some (parse_fr ff h0) hp)
  have hZ : (frB f).length ≤ 140737488355328 := by have := (frOk_parts h0).2; omega
  have hsb := Lib.hid (fun (va : Value) (wx : World) (ha : RdB wx va (frB f)) (hb : RdB wx (.slice ba (frB f).length bc) (frB f)) => (same_any va _ (frB f) (frB f) wx hZ ha hb).mono fun e w' ⟨q1, q2⟩ => (show e = Ending.returned (.bool true) ∧ Below wx.heap.size wx w' from ⟨by rw [q1, sameF_self], q2.below (Below.refl _ _)⟩))
  have hSm := Lib.hid (fun (ia' : Option Addr) (ic' : Nat) (oa' : Option Addr) (oc' : Nat) (wz : World) (h : Below W.heap.size W wz) (h1 : RdI wz (.slice ia' f.n ic') f.n f.F) (h2 : RdS wz (.slice oa' f.L.length oc') f.L) => (sameFr_any f f ff.n ff.l ff.s _ _ _ _ wz (hIr.out wz h) (hOr.out wz h) h1 h2).mono fun e w' ⟨q1, q2⟩ => (show e = Ending.returned (.bool true) ∧ Below wz.heap.size wz w' from ⟨by rw [q1, sameFr_me], q2⟩))
  generalize hZL : (frB f).length = ZL at *
  clear hr0 hb0 hi ho hr ff h0 hIr hOr hby hZ hZL
  go_enter Try.func27, Try.ntmps27
  go_upto_region 1 with fail
  rw [← hW]
  clear hW
  go_upto_region 3 with (first
    | (refine wpList_load_row_g rfl 26 _ rfl w.heap.size rfl 26 (f.c (.slice ia f.n ic) (.slice oa f.L.length oc)) (0, 0) _ (hrows.out _ hB.out) Try.underlying26 rfl info_frame ?_)
    | (go_at_call 11; (with_reducible refine (hE.out _ hB.out).mono ?_); rintro e w3 ⟨sa, sc, rfl, q1, h3⟩; have sB := Lib.hid q1; replace hB := Lib.hid (hB.out.trans (Below.mono h3 hB.out.size)); clear h3 q1)
    | (go_at_call 19; (with_reducible refine (hP.out _ hB.out).mono ?_); rintro e w4 ⟨ja, jc, pa, pc, rfl, q1, q2, h3⟩; replace sB := Lib.hid (sB.out.mono h3); have hI := Lib.hid q1; have hO := Lib.hid q2; replace hB := Lib.hid (hB.out.trans (Below.mono h3 hB.out.size)); clear h3 q1 q2))
  have q5 := below_a w4 (.cells (f.c (.slice ja f.n jc) (.slice pa f.L.length pc)) 26)
  have r4 := Lib.hid (heap_alloc_new w4 (.cells (f.c (.slice ja f.n jc) (.slice pa f.L.length pc)) 26))
  replace hI := Lib.hid (heldI_rd (heldI_mono hI.out q5))
  replace hO := Lib.hid (heldS_rd (heldS_mono hO.out q5))
  replace sB := Lib.hid (sB.out.mono q5)
  replace hB := Lib.hid (hB.out.trans (q5.mono hB.out.size))
  clear q5
  change Code.wp _ _ _ _ (w4.alloc (.cells (f.c (.slice ja f.n jc) (.slice pa f.L.length pc)) 26))
  generalize w4.alloc (.cells (f.c (.slice ja f.n jc) (.slice pa f.L.length pc)) 26) = w6 at *
  generalize w4.heap.size = g4 at *
  go_wp2_with (first
    | (go_at_call 17; (with_reducible refine (hsb.out _ _ sB.out (hBr.out _ hB.out)).mono ?_); rintro e w7 ⟨rfl, h3⟩; replace hB := Lib.hid (hB.out.trans (Below.mono h3 hB.out.size)); replace r4 := Lib.hid (rowB r4.out h3 (Array.getElem?_eq_some_iff.1 r4.out).1); replace hI := Lib.hid (hI.out.mono h3); replace hO := Lib.hid (hO.out.mono h3); clear h3)
    | (refine wpList_load_row_g rfl 26 _ rfl w.heap.size rfl 26 (f.c (.slice ia f.n ic) (.slice oa f.L.length oc)) (0, 0) _ (hrows.out _ hB.out) Try.underlying26 rfl info_frame ?_)
    | (refine wpList_load_row_g rfl 26 _ rfl g4 rfl 26 (f.c (.slice ja f.n jc) (.slice pa f.L.length pc)) (0, 0) _ r4.out Try.underlying26 rfl info_frame ?_)
    | (go_at_call 18; (with_reducible refine (hSm.out _ _ _ _ _ hB.out hI.out hO.out).mono ?_); rintro e w9 ⟨rfl, h9⟩; replace hB := Lib.hid (hB.out.trans (Below.mono h9 hB.out.size)); clear h9))
  go_ret
  exact ⟨rfl, hb1.out.trans (hB.out.mono hb1.out.size)⟩
end Go.Proofs.Ytegffpjhdodldaa
