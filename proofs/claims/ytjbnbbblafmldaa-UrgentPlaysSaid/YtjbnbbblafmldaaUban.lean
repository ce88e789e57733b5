/- Package urgent's risen, sunk and lay, each as a contract. No condition. -/
import Derived.Test.YtjbnbbblafmldaaUbam
namespace Go.Proofs.Ytjbnbbblafmldaa
open Go.RowKit
set_option linter.unusedVariables false
set_option linter.unusedSimpArgs false
set_option maxRecDepth 20000

/-- A queue whose job j is to be laid at p; j's box is s. -/
structure RsI (W : World) (F : Nat → Prop) (g b s N : Nat) (A : Option Addr) (n cp c j : Nat) (v : Option Nat) (X : Nat → Prop) (R : List Nat) (M : Nat → Option Nat) (f : Nat → Nat) (p : Nat) (wr : World) : Prop where
  st : HSt N p j v R M f X
  qu : QuR wr F g b A n cp R M c
  kp : Kp F W wr
  bx : BxJ wr s j
  nf : ¬ F s
section
variable {W wr w1 : World} {F : Nat → Prop} {g b s N n cp c j p : Nat} {v : Option Nat} {A : Option Addr} {X : Nat → Prop} {R R' : List Nat} {M M' : Nat → Option Nat} {f f' : Nat → Nat}
theorem RsI.no (h : RsI W F g b s N A n cp c j v X R M f p wr) (hk : Kp No wr w1) : RsI W F g b s N A n cp c j v X R M f p w1 := ⟨h.st, h.qu.no hk, h.kp.trans' (hk.of_no F), h.bx.no hk, h.nf⟩
end
/-- Where j is to be laid. -/
def UrPost (w : World) (F : Nat → Prop) (g b N : Nat) (A : Option Addr) (n cp c j : Nat) (v : Option Nat) (X : Nat → Prop) (D : Nat → (Nat → Nat) → Prop) (e : Ending) (w1 : World) : Prop :=
  ∃ R M f p, e = .returned (.int .i64 ((p : Nat) : Int)) ∧ HSt N p j v R M f X ∧ UpOk p f ∧ D p f ∧ QuR w1 F g b A n cp R M c ∧ Kp F w w1
set_option maxHeartbeats 2000000 in
theorem urisen_any {w : World} {F : Nat → Prop} {g b N n cp c j p : Nat} {v : Option Nat} {A : Option Addr} {X : Nat → Prop} {R : List Nat} {M : Nat → Option Nat} {f : Nat → Nat} (h : QuR w F g b A n cp R M c) (hst : HSt N p j v R M f X) (hN : N ≤ 1000000) (hc : c ≤ 1000000) :
    Calls Try.prog 26 #[.pointer (some ⟨g, 0, none⟩), .int .i64 (p : Int), jbV j] w (UrPost w F g b N A n cp c j v X (fun _ _ => True)) := by
  have hl := h.lt
  have hmono : ∀ k, (fun k => F k ∧ k < w.heap.size) k → F k := fun k hk => hk.1
  have hpn : N ≤ 1000000 := hN
  have hnN : n = N := by rw [h.len, hst.len]
  obtain ⟨G, hG⟩ : ∃ G : Nat → Prop, G = fun k => F k ∧ k < w.heap.size := ⟨_, rfl⟩
  rw [← hG] at hl hmono
  have hsG : ¬ G w.heap.size := by rw [hG]; simp
  have hI : RsI w G g b w.heap.size N A n cp c j v X R M f p (w.alloc (.cells #[.int .u32 (jO j : Int), .int .u16 (jS j : Int), .int .i64 (jG j)] 36)) :=
    ⟨hst, hl.no (Kp.alloc No w _), Kp.alloc G w _, Bx3.new w _ _ _ _, hsG⟩
  obtain ⟨gj, rfl, -⟩ := OwnT.some_ h.row (by have := hst.pl; have := hst.len; omega)
  have HI := hide hI
  have HNN := hide hnN
  have HN := hide hN
  have HC := hide hc
  have HM := hide hmono
  clear h hl hst hI hG hmono hnN hN hc hsG hpn
  go_enter Try.func26, Try.ntmps26
  go_wp2_with fail
  generalize w.alloc (.cells #[.int .u32 (jO j : Int), .int .u16 (jS j : Int), .int .i64 (jG j)] 36) = wa at HI ⊢
  generalize w.heap.size = s at HI ⊢
  go_loopw [1] (fun u wr => ∃ (p : Nat) (R : List Nat) (M : Nat → Option Nat) (f : Nat → Nat), u = .int .i64 (p : Int) ∧ RsI w G g b s N (some ⟨gj, 0, none⟩) n cp c j v X R M f p wr) (fun u _ => (intOf u).toNat)
  case atStart => exact ⟨p, R, M, f, rfl, HI.out⟩
  case round =>
    clear HI p R M f
    obtain ⟨p, R, M, f, rfl, hI⟩ := hrel
    have hpN := hI.st.pl
    have hNb := HN.out
    rcases Nat.eq_zero_or_pos p with h0 | h0
    · subst h0
      have HR : Hid (UrPost w F g b N (some ⟨gj, 0, none⟩) n cp c j v X (fun _ _ => True) (.returned (.int .i64 ((0 : Nat) : Int))) wr) :=
        ⟨R, M, f, 0, rfl, hI.st, fun h => absurd h (by omega), trivial, hI.qu.mono HM.out, hI.kp.mono HM.out⟩
      clear hI hpN hNb
      go_wp2_with fail
      go_ret
      exact HR.out
    · have hz : ((0 : Nat) : Int) < (p : Int) := by omega
      obtain ⟨d, hd⟩ : ∃ d : Nat, d = p - 1 := ⟨_, rfl⟩
      obtain ⟨q, hq⟩ : ∃ q : Nat, q = (p - 1) / 2 := ⟨_, rfl⟩
      have e1 : (p : Int) - 1 = (d : Int) := by omega
      have e2 : (d : Int) / 2 = (q : Int) := by omega
      have e3 : (d : Int).tdiv 2 = (q : Int) := by rw [Int.tdiv_eq_ediv_of_nonneg (by omega)]; exact e2
      have hqb : q < 1000000 := by omega
      have hdb : d < 1000000 := by omega
      have hpb : p < 1000000 := by omega
      have hqn : q < n := by have := HNN.out; omega
      have hqne : q ≠ p := by omega
      have hat := hI.st.at_ (q := q) (by omega) hqne
      obtain ⟨y, hy⟩ : ∃ y, y = f q := ⟨_, rfl⟩
      rw [← hy] at hat
      have x0 := hI.qu.c0
      obtain ⟨y0, y1, y2⟩ := JbR.cells hI.qu.row hat
      obtain ⟨j0, j1, j2⟩ := hI.bx.cell
      have HCM := hide (fun w => ucompare_any w j y)
      have HH := hide hI
      have HQ := hide hq
      have HAT := hide hat
      have HY := hide hy
      have HPN := hide hpN
      have HQN := hide hqne
      by_cases hjy : j < y
      · have hd2 : decide (cmpN j y < 0) = true := decide_eq_true (cmpN_neg.2 hjy)
        have hd3 : decide (0 ≤ cmpN j y) = false := decide_eq_false (fun e => by have := cmpN_neg.2 hjy; omega)
        have HJ := hide hjy
        clear hI hpN hd hq hat hy hqne hjy
        go_wp2_with fail
        go_region_held3 (fun w' => w'.cell? ⟨g, 0, none⟩ = some (.slice (some ⟨gj, 0, none⟩) n cp) ∧ w'.cell? ⟨gj, q * 3, none⟩ = some (.int .u32 (jO y : Int)) ∧ w'.cell? ⟨gj, q * 3 + 1, none⟩ = some (.int .u16 (jS y : Int)) ∧ w'.cell? ⟨gj, q * 3 + 2, none⟩ = some (.int .i64 (jG y)) ∧
            w'.cell? ⟨s, 0, none⟩ = some (.int .u32 (jO j : Int)) ∧ w'.cell? ⟨s, 1, none⟩ = some (.int .u16 (jS j : Int)) ∧ w'.cell? ⟨s, 2, none⟩ = some (.int .i64 (jG j))) (first | assumption | go_keep)
          (first
            | (go_at_call 24; ((with_reducible refine (HCM.out _).mono ?_); rintro e w1 ⟨rfl, k1⟩); have s1 := ukept7 k1 (by assumption)))
        have H1 := hide (HH.out.no ((Kp.refl No wr).drew.trans' k1))
        have HS := hide (uset_any (c' := c) (x := y) H1.out.qu (by rw [H1.out.st.len]; exact HPN.out) (by rw [H1.out.st.len]; exact HN.out) HC.out (Nat.le_refl c) (fun e => by rw [HY.out, H1.out.st.has (by have := HPN.out; have := HQ.out; omega) HQN.out] at e; cases e))
        clear x0 y0 y1 y2 j0 j1 j2 k1 HCM HH
        have x0 := H1.out.qu.c0
        obtain ⟨y0, y1, y2⟩ := JbR.cells H1.out.qu.row HAT.out
        go_wp2_with fail
        refine HS.out.mono ?_
        rintro e w2 ⟨rfl, h2, k2⟩
        have H2 := hide h2
        have K2 := hide k2
        clear h2 k2 HS x0 y0 y1 y2
        go_wp2_with fail
        go_round
        case rel =>
          have hq := HQ.out
          have hst := H1.out.st.rise h0 (by rw [← hq, ← HY.out]; exact HJ.out)
          rw [← hq, ← HY.out] at hst
          exact ⟨q, R.set p y, updM M (ky y) (some p), swp f p q, rfl, hst, H2.out, H1.out.kp.trans' K2.out, H1.out.bx.keep K2.out H1.out.nf, H1.out.nf⟩
        case measure =>
          have := HQ.out
          simp [intOf]
          omega
      · have hd2 : decide (0 ≤ cmpN j y) = true := decide_eq_true (by have := @cmpN_neg j y; omega)
        have HR : Hid (∀ w1, Kp No wr w1 → UrPost w F g b N (some ⟨gj, 0, none⟩) n cp c j v X (fun _ _ => True) (.returned (.int .i64 (p : Int))) w1) :=
          fun w1 hk => ⟨R, M, f, p, rfl, hI.st, fun _ => by rw [← hq, ← hy, hI.st.fp]; omega, trivial, (hI.qu.no hk).mono HM.out, (hI.kp.trans' (hk.of_no G)).mono HM.out⟩
        clear hI hpN hd hq hat hy hqne hjy HH
        go_wp2_with fail
        go_region_held3 (fun w' => w'.cell? ⟨g, 0, none⟩ = some (.slice (some ⟨gj, 0, none⟩) n cp) ∧ w'.cell? ⟨gj, q * 3, none⟩ = some (.int .u32 (jO y : Int)) ∧ w'.cell? ⟨gj, q * 3 + 1, none⟩ = some (.int .u16 (jS y : Int)) ∧ w'.cell? ⟨gj, q * 3 + 2, none⟩ = some (.int .i64 (jG y)) ∧
            w'.cell? ⟨s, 0, none⟩ = some (.int .u32 (jO j : Int)) ∧ w'.cell? ⟨s, 1, none⟩ = some (.int .u16 (jS j : Int)) ∧ w'.cell? ⟨s, 2, none⟩ = some (.int .i64 (jG j))) (first | assumption | go_keep)
          (first
            | (go_at_call 24; ((with_reducible refine (HCM.out _).mono ?_); rintro e w1 ⟨rfl, k1⟩); have s1 := ukept7 k1 (by assumption)))
        go_wp2_with fail
        go_ret
        exact HR.out _ ((Kp.refl No wr).drew.trans' k1)
end Go.Proofs.Ytjbnbbblafmldaa
