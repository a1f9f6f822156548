/-
  Turned quasigroups: both functions, at all kinds.
-/
import Derived.Test.YtiokcflomchdcaaDoorTurnI
namespace Go.Proofs.YtiokcflomchdcaaDoor
open Go.RowKit

def turnOk (t : List (List Int)) (kind : Int) : Bool := isQ t && inB kind 0 4
def tP (t : List (List Int)) : Nat → Nat → Nat → Nat
  | 0 => fun _ y => y
  | 1 => fun x _ => x
  | 2 => cellZ t
  | 3 => fun _ y => y
  | _ => cellZ t
def tQ (t : List (List Int)) : Nat → Nat → Nat → Nat
  | 0 => fun x _ => x
  | 1 => cellZ t
  | 2 => fun _ y => y
  | 3 => cellZ t
  | _ => fun x _ => x
def tV (t : List (List Int)) : Nat → Nat → Nat → Nat
  | 0 => cellZ t
  | 1 => fun _ y => y
  | 2 => fun x _ => x
  | 3 => fun x _ => x
  | _ => fun _ y => y
theorem turn_inj {t : List (List Int)} {n k : Nat} (h : isQ t = true) (hl : t.length = n) (hk : k < 5) : InjP (tP t k) (tQ t k) n := by
  rcases (show k = 0 ∨ k = 1 ∨ k = 2 ∨ k = 3 ∨ k = 4 by omega) with rfl | rfl | rfl | rfl | rfl
  · exact turn_inj0 h hl
  · exact turn_inj1 h hl
  · exact turn_inj2 h hl
  · exact turn_inj3 h hl
  · exact turn_inj4 h hl

set_option maxRecDepth 100000 in
set_option maxHeartbeats 4000000 in
theorem specTurn_any {B : Nat} (A : Option Addr) (n c : Nat) (kind : Int) (t : List (List Int)) (F : Nat → Nat → Nat) (w : World) (h : Rows2 B w A n t) (hB : B ≤ w.heap.size)
    (hF : turnOk t kind = true → ∀ x y, x < n → y < n → F (tP t kind.toNat x y) (tQ t kind.toNat x y) = tV t kind.toNat x y) :
    Calls Tryd.prog 5 #[.slice A n c, .int .i64 kind] w (GotT (optB (turnOk t kind) (gridOf n n F)) w) := by
  have hl := h.len
  have hle := h.le
  have CQ := l04Is_any A n c t w h hB
  have HO : Hid (turnOk t kind = (isQ t && inB kind 0 4)) := Lib.hid rfl
  have HFF := Lib.hid hF
  obtain ⟨o, ho⟩ : ∃ o, o = turnOk t kind := ⟨_, rfl⟩
  rw [← ho] at HO HFF ⊢
  clear ho hF
  rcases hq : isQ t with _ | _
  · rw [hq] at CQ HO
    obtain rfl : o = false := HO.out
    go_enter Tryd.func5, Tryd.ntmps5
    go_wp2_with (go_at_call 12; (with_reducible refine (CQ).mono ?_); rintro e w' ⟨rfl, hb⟩)
    go_ret2
    exact gotT_none hb
  · have hp := isQ_parts hq hl
    have CI : ∀ W, Calls Tryd.prog 13 #[.int .i64 kind, .int .i64 0, .int .i64 4] W fun e w' => e = .returned (.bool (inB kind 0 4)) ∧ W = w' := fun W => l00In_any _ _ _ W
    rcases hk : inB kind 0 4 with _ | _
    · rw [hq] at CQ HO
      rw [hk] at CI HO
      obtain rfl : o = false := HO.out
      clear hk hq
      go_enter Tryd.func5, Tryd.ntmps5
      go_wp2_with fail
      (go_at_call 12; (with_reducible refine (CQ).mono ?_); rintro e w1 ⟨rfl, hb⟩)
      go_wp2_with (go_at_call 13; (with_reducible refine (CI _).mono ?_); rintro e w' ⟨rfl, rfl⟩)
      go_ret2
      exact gotT_none hb
    · have hkb := inB_true.1 hk
      have hP := turn_inj hq hl (show kind.toNat < 5 by omega)
      rw [hq] at CQ HO
      rw [hk] at CI HO
      obtain rfl : o = true := HO.out
      have hF := HFF.out rfl
      have CR : ∀ W, Below w.heap.size w W → Calls Tryd.prog 14 #[.slice A n c, .int .i64 kind] W (MadeG W.heap.size n F W) := fun W hW => by
        have h1 := h.below (hW.mono hB)
        have h2 := Nat.le_trans hB hW.size
        rcases (show kind = 0 ∨ kind = 1 ∨ kind = 2 ∨ kind = 3 ∨ kind = 4 by omega) with rfl | rfl | rfl | rfl | rfl
        · exact l04Turn0_any A n c t F W h1 h2 hp.2 hp.1.2 hP hF
        · exact l04Turn1_any A n c t F W h1 h2 hp.2 hp.1.2 hP hF
        · exact l04Turn2_any A n c t F W h1 h2 hp.2 hp.1.2 hP hF
        · exact l04Turn3_any A n c t F W h1 h2 hp.2 hp.1.2 hP hF
        · exact l04Turn4_any A n c t F W h1 h2 hp.2 hp.1.2 hP hF
      clear hF hP HFF hkb hk hq h hp
      go_enter Tryd.func5, Tryd.ntmps5
      go_wp2_with fail
      (go_at_call 12; (with_reducible refine (CQ).mono ?_); rintro e w1 ⟨rfl, hb⟩)
      go_wp2_with (go_at_call 13; (with_reducible refine (CI _).mono ?_); rintro e w' ⟨rfl, rfl⟩)
      (go_at_call 14; (with_reducible refine (CR _ hb).mono ?_); rintro e w2 ⟨A', c', L, rfl, hown, hbel⟩)
      go_wp2_with fail
      go_ret2
      exact gotT_some (hown.lower hb.size) (hb.trans (hbel.mono hb.size))
set_option maxRecDepth 100000 in
set_option maxHeartbeats 4000000 in
theorem implTurn_any {B : Nat} (A : Option Addr) (n c : Nat) (kind : Int) (t : List (List Int)) (F : Nat → Nat → Nat) (w : World) (h : Rows2 B w A n t) (hB : B ≤ w.heap.size) (hT : TurnsAt w)
    (hF : turnOk t kind = true → ∀ x y, x < n → y < n → F (tP t kind.toNat x y) (tQ t kind.toNat x y) = tV t kind.toNat x y) :
    Calls Tryd.prog 7 #[.slice A n c, .int .i64 kind] w (GotT (optB (turnOk t kind) (gridOf n n F)) w) := by
  have hl := h.len
  have hle := h.le
  have CQ := implIsQ_any A n c t w h hB
  have HO : Hid (turnOk t kind = (isQ t && inB kind 0 4)) := Lib.hid rfl
  have HFF := Lib.hid hF
  obtain ⟨o, ho⟩ : ∃ o, o = turnOk t kind := ⟨_, rfl⟩
  rw [← ho] at HO HFF ⊢
  clear ho hF
  rcases hq : isQ t with _ | _
  · rw [hq] at CQ HO
    obtain rfl : o = false := HO.out
    go_enter Tryd.func7, Tryd.ntmps7
    go_wp2_with (go_at_call 16; (with_reducible refine (CQ).mono ?_); rintro e w' ⟨rfl, hb⟩)
    go_ret2
    exact gotT_none hb
  · rcases hk : inB kind 0 4 with _ | _
    · have CI : ∀ W, Calls Tryd.prog 17 #[.int .i64 kind, .int .i64 0, .int .i64 4] W fun e w' => e = .returned (.bool false) ∧ W = w' := fun W => by rw [← hk]; exact within_any _ _ _ W
      rw [hq] at CQ HO
      rw [hk] at HO
      obtain rfl : o = false := HO.out
      clear hk hq
      go_enter Tryd.func7, Tryd.ntmps7
      go_wp2_with fail
      (go_at_call 16; (with_reducible refine (CQ).mono ?_); rintro e w1 ⟨rfl, hb⟩)
      go_wp2_with (go_at_call 17; (with_reducible refine (CI _).mono ?_); rintro e w' ⟨rfl, rfl⟩)
      go_ret2
      exact gotT_none hb
    · have hkb := inB_true.1 hk
      have HO2 : o = true := by rw [HO.out, hq, hk]; rfl
      subst HO2
      have hF := HFF.out rfl
      rcases (show kind = 0 ∨ kind = 1 ∨ kind = 2 ∨ kind = 3 ∨ kind = 4 by omega) with rfl | rfl | rfl | rfl | rfl
      · exact implTurn0_any A n c t F w h hB hq hT hF
      · exact implTurn1_any A n c t F w h hB hq hT hF
      · exact implTurn2_any A n c t F w h hB hq hT hF
      · exact implTurn3_any A n c t F w h hB hq hT hF
      · exact implTurn4_any A n c t F w h hB hq hT hF
end Go.Proofs.YtiokcflomchdcaaDoor
