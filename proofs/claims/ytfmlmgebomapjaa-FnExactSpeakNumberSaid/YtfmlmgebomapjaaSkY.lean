/-
  Syllables of the program.
-/
import Derived.Test.YtfmlmgebomapjaaSkP
import Derived.RegionTactic
import Derived.BigRegion
import Derived.Laws.BytesString
namespace Go.Proofs.Ytfmlmgebomapjaa
open Go Go.RowKit

theorem conv_two (W : World) (g : Nat) (x y : UInt8) (h0 : W.cell? ⟨g, 0, none⟩ = some (.int .u8 (x.toNat : Int))) (h1 : W.cell? ⟨g, 1, none⟩ = some (.int .u8 (y.toNat : Int))) :
    (convert 47 9 (.slice (some ⟨g, 0, none⟩) 2 2)).run Try.prog W = .ok (.string ⟨#[x, y]⟩) W := by
  rw [run_convert_bytes_string W 47 9 5 (some ⟨g, 0, none⟩) 2 2 Try.underlying47 Try.underlying5 Try.underlying9]
  have hl : (loadCells ⟨g, 0, none⟩ 2).run Try.prog W = .ok (([(x.toNat : Int), (y.toNat : Int)].map (Value.int .u8)).toArray) W :=
    run_loadCells_list (P := Try.prog) W ⟨g, 0, none⟩ [.int .u8 (x.toNat : Int), .int .u8 (y.toNat : Int)] (fun j v hv => by
      match j, hv with
      | 0, hv => simp at hv; subst hv; simpa [Addr.add] using h0
      | 1, hv => simp at hv; subst hv; simpa [Addr.add] using h1
      | j + 2, hv => simp at hv)
  rw [run_bytesToString W ⟨g, 0, none⟩ 2 2 [(x.toNat : Int), (y.toNat : Int)] hl]
  simp only [List.foldl_cons, List.foldl_nil, Int.toNat_natCast, UInt8.ofNat_toNat]
  rfl
theorem syl_parts (F S : ByteArray) {d : Nat} (hd : d < F.size * S.size) : d / S.size < F.size ∧ d % S.size < S.size := by
  have hs : 0 < S.size := by
    rcases Nat.eq_zero_or_pos S.size with h | h
    · rw [h] at hd; omega
    · exact h
  exact ⟨(Nat.div_lt_iff_lt_mul hs).2 hd, Nat.mod_lt _ hs⟩
set_option maxRecDepth 100000 in
set_option maxHeartbeats 2000000 in
theorem syllable_any (F S : ByteArray) (d : Nat) (w : World) (hF : F.size ≤ 20) (hS : S.size ≤ 6) (hd : d < F.size * S.size) :
    Calls Try.prog 30 #[spV F S, .int .i64 (d : Int)] w fun e w' => e = .returned (.string (syl F S d)) ∧ Below w.heap.size w w' := by
  obtain ⟨h1, h2⟩ := syl_parts F S hd
  have hs : 0 < S.size := by omega
  obtain ⟨a, ha⟩ : ∃ a, a = d / S.size := ⟨_, rfl⟩
  obtain ⟨b, hb⟩ : ∃ b, b = d % S.size := ⟨_, rfl⟩
  have hq : (d : Int) / (S.size : Int) = (a : Int) := by rw [ha]; simp
  have hr : (d : Int) % (S.size : Int) = (b : Int) := by rw [hb]; simp
  rw [← ha] at h1
  rw [← hb] at h2
  have hne : ¬ (S.size : Int) = 0 := by omega
  have hne2 : ((S.size : Int) == 0) = false := by rw [beq_eq_false_iff_ne]; exact hne
  have ha20 : (a : Int) < (F.size : Int) := by omega
  have hb20 : (b : Int) < (S.size : Int) := by omega
  have hdb : d ≤ 120 := Nat.le_of_lt (Nat.lt_of_lt_of_le hd (Nat.le_trans (Nat.mul_le_mul hF hS) (by decide)))
  have hquo : IntKind.i64.wrap ((d : Int).tdiv (S.size : Int)) = (a : Int) := by
    rw [IntWalk.i64_quo _ _ (by omega)]; exact hq
  have hrem : (d : Int).tmod (S.size : Int) = (b : Int) := by rw [IntWalk.rem_in _ _ (by omega)]; exact hr
  have hwr : IntKind.i64.wrap (b : Int) = (b : Int) := IntWalk.i64_in _ (by omega)
  have HE : Hid (syl F S d = ⟨#[F[a], S[b]]⟩) := Lib.hid (by
    unfold syl
    rw [← ha, ← hb]
    have e1 : F.data.getD a 0 = F[a] := by simp [Array.getD, h1]; rfl
    have e2 : S.data.getD b 0 = S[b] := by simp [Array.getD, h2]; rfl
    rw [e1, e2])
  have hcv := conv_two (((w.alloc (.cells #[.string F, .string S] 30)).alloc (.cells #[.int .u8 (F[a].toNat : Int), .int .u8 (S[b].toNat : Int)] 5)).drew) (w.heap.size + 1) F[a] S[b] (by simp) (by simp)
  clear ha hb hd
  go_enter Try.func30, Try.ntmps30
  go_wp2_with fail
  go_region
  go_wp2_with fail
  go_ret
  exact ⟨by rw [HE.out]; rfl, (((Below.refl _ _).alloc (Nat.le_refl _) _).alloc (by simp) _).drew⟩
end Go.Proofs.Ytfmlmgebomapjaa
