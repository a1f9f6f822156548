/-
  Valid groups, identities and inverses, by the model and by the program.
-/
import Derived.Test.YteggllmiapdmcabPrG
namespace Go.Proofs.Yteggllmiapdmcab
open Go.RowKit

theorem productsNo_any {B : Nat} (x : Gp) (A : Option Addr) (n c : Nat) (w : World) (h : Rows2 B w A n x.G) (hB : B ≤ w.heap.size) (hq : grpOk x.G = false) :
    Calls Try.prog 55 #[gpV x A n c] w fun r w' => r = .returned (.tuple #[.pointer none, .bool false]) ∧ Below w.heap.size w w' := by
  refine (productsOf_any x A n c w h hB).mono fun r w' ⟨hb, h1⟩ => ?_
  rcases h1 with ⟨_, h1⟩ | ⟨g, n', e, hg, _⟩
  · exact ⟨h1, hb⟩
  · rw [hg.ok] at hq; cases hq
theorem productsYes_any {B : Nat} (x : Gp) (A : Option Addr) (n c e : Nat) (w : World) (h : Rows2 B w A n x.G) (hB : B ≤ w.heap.size) (hq : Grp x.G n e) :
    Calls Try.prog 55 #[gpV x A n c] w fun r w' => ∃ g, r = .returned (.tuple #[ptr g, .bool true]) ∧ Hid (Pr w' g n e x.G) ∧ Hid (w.heap.size ≤ g) ∧ Hid (Below w.heap.size w w') := by
  refine (productsOf_any x A n c w h hB).mono fun r w' ⟨hb, h1⟩ => ?_
  rcases h1 with ⟨h2, h1⟩ | ⟨g, n', e', hg, h1, h3, h4⟩
  · rw [hq.ok] at h2; cases h2
  · obtain rfl : n' = n := hg.len.symm.trans hq.len
    have h5 := hg.id
    rw [hq.id] at h5
    injection h5 with h5
    subst h5
    exact ⟨g, h1, Lib.hid h3, Lib.hid h4, Lib.hid hb⟩

def idR (t : List (List Int)) : Int := if grpOk t = true then (((idOf t t.length).getD 0 : Nat) : Int) else 0
theorem idR_no {t : List (List Int)} (h : grpOk t = false) : idR t = 0 := by unfold idR; rw [h]; rfl
theorem idR_yes {t : List (List Int)} {n e : Nat} (h : Grp t n e) : idR t = (e : Int) := by unfold idR; rw [if_pos h.ok, h.len, h.id]; rfl
def withB (t : List (List Int)) (x : Int) : Bool := grpOk t && inB x 0 ((t.length : Int) - 1)
def invR (t : List (List Int)) (x : Int) : Int := if withB t x = true then (((invOf t t.length ((idOf t t.length).getD 0) x.toNat).getD 0 : Nat) : Int) else 0
theorem withB_no {t : List (List Int)} (x : Int) (h : grpOk t = false) : withB t x = false := by unfold withB; rw [h]; rfl
theorem withB_yes {t : List (List Int)} {n e : Nat} (h : Grp t n e) (x : Int) : withB t x = inB x 0 ((n : Int) - 1) := by unfold withB; rw [h.ok, h.len]; rfl
theorem invR_no {t : List (List Int)} {x : Int} (h : withB t x = false) : invR t x = 0 := by unfold invR; rw [h]; rfl
theorem invR_yes {t : List (List Int)} {n e x v : Nat} (h : Grp t n e) (hx : x < n) (hv : invOf t n e x = some v) : invR t (x : Int) = (v : Int) := by
  unfold invR
  rw [if_pos (by rw [withB_yes h]; exact inB_true.2 (by omega)), h.len, h.id]
  show (((invOf t n e x).getD 0 : Nat) : Int) = v
  rw [hv]; rfl

set_option maxRecDepth 100000 in
set_option maxHeartbeats 2000000 in
theorem l05With_any {B gb : Nat} (A : Option Addr) (n c : Nat) (t : List (List Int)) (x : Int) (w : World) (hg : w.cell? ⟨gb, 0, none⟩ = some (.slice A n c)) (h : Rows2 B w A n t) :
    Calls Try.prog 51 #[ptr gb, .int .i64 x] w fun r w' => r = .returned (.bool (withB t x)) ∧ ∃ m, w' = w.drewN m := by
  have hle := h.le
  have hl := h.len
  have CI := l05Is_any A n c t w hg h
  have HW : Hid (withB t x = (grpOk t && inB x 0 ((n : Int) - 1))) := Lib.hid (by unfold withB; rw [hl])
  clear h hl
  rcases hq : grpOk t with _ | _
  · rw [hq] at CI HW
    clear hq
    go_enter Try.func51, Try.ntmps51
    go_wp2_with fail
    (go_at_call 60; (with_reducible refine (CI).mono ?_); rintro e w' ⟨rfl, m, rfl⟩)
    go_wp2_with fail
    go_ret
    exact ⟨ret_bool (by rw [HW.out]; rfl), m, rfl⟩
  · rw [hq] at CI HW
    clear hq
    have CN : ∀ W, Calls Try.prog 52 #[.int .i64 x, .int .i64 0, .int .i64 (n - 1)] W fun e w' => e = .returned (.bool (inB x 0 ((n : Int) - 1))) ∧ W = w' := fun W => l00In_any _ _ _ W
    go_enter Try.func51, Try.ntmps51
    go_wp2_with fail
    (go_at_call 60; (with_reducible refine (CI).mono ?_); rintro e w' ⟨rfl, m, rfl⟩)
    go_wp2_with fail
    (go_at_call 52; (with_reducible refine (CN _).mono ?_); rintro e w' ⟨rfl, rfl⟩)
    go_wp2_with fail
    go_ret
    exact ⟨ret_bool (by rw [HW.out]; rfl), m, rfl⟩
set_option maxHeartbeats 1000000 in
theorem prHas_any {b n B : Nat} {e : Int} {t : List (List Int)} (A : Option Addr) (m c : Nat) (zs : List Int) (w : World) (h : Pr w b n e t) (hn : n ≤ 10) (hr : RowB .i64 B w A m zs) :
    Calls Try.prog 56 #[ptr b, .slice A m c] w fun r w' => r = .returned (.bool (zs.all fun z => inB z 0 ((n : Int) - 1))) ∧ w = w' := by
  have c0 := h.size
  have CA := allWithin_any A m c 0 ((n : Int) - 1) zs w hr
  clear h hr
  go_enter Try.func56, Try.ntmps56
  go_wp2_with fail
  (go_at_call 94; (with_reducible refine (CA).mono ?_); rintro e w' ⟨rfl, rfl⟩)
  go_wp2_with fail
  go_ret
  exact ⟨rfl, rfl⟩
theorem row_one {w : World} {b : Nat} {x : Int} (hb : b < w.heap.size) (hc : w.cell? ⟨b, 0, none⟩ = some (.int .i64 x)) (hx : (Lit.int .i64 x).wf = true) : RowB .i64 w.heap.size w (some ⟨b, 0, none⟩) 1 [x] :=
  ⟨rfl, by unfold maxLen; omega, fun z hz => by rw [List.mem_singleton.1 hz]; exact hx, fun _ => ⟨b, 0, rfl, hb, fun j hj => by
    obtain rfl : j = 0 := by omega
    exact hc⟩⟩
theorem prHas1_any {b n a : Nat} {e : Int} {t : List (List Int)} (x : Int) (w : World) (h : Pr w b n e t) (hn : n ≤ 10) (hb : a < w.heap.size) (hc : w.cell? ⟨a, 0, none⟩ = some (.int .i64 x)) (hx : (Lit.int .i64 x).wf = true) :
    Calls Try.prog 56 #[ptr b, .slice (some ⟨a, 0, none⟩) 1 1] w fun r w' => r = .returned (.bool (inB x 0 ((n : Int) - 1))) ∧ w = w' := by
  refine (prHas_any _ 1 1 [x] w h hn (row_one hb hc hx)).mono fun r w' ⟨h1, h2⟩ => ⟨h1.trans (ret_bool (by simp)), h2⟩

end Go.Proofs.Yteggllmiapdmcab
