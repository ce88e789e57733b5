/- Package urgent's lay; a queue of jobs in memory: New, Len, place, First, Get, and those of none, each as a contract. No condition. -/
import Derived.Test.YtjbnbbblafmldaaUbao
namespace Go.Proofs.Ytjbnbbblafmldaa
open Go.RowKit
set_option linter.unusedVariables false
set_option linter.unusedSimpArgs false
set_option maxRecDepth 20000

/-- The queue of the jobs r is laid. -/
def UlPost (w : World) (F : Nat → Prop) (g b : Nat) (A : Option Addr) (n cp : Nat) (r : List Nat) (e : Ending) (w1 : World) : Prop :=
  e = .returned (.tuple #[]) ∧ (∃ R M, QuR w1 F g b A n cp R M R.length ∧ QOk R M r) ∧ Kp F w w1
theorem kept3s {S : Nat → Prop} {w w1 : World} {s : Nat} {v0 v1 v2 : Value} (hk : Kp S w w1) (hs : ¬ S s) (h : w.cell? ⟨s, 0, none⟩ = some v0 ∧ w.cell? ⟨s, 1, none⟩ = some v1 ∧ w.cell? ⟨s, 2, none⟩ = some v2) :
    w1.cell? ⟨s, 0, none⟩ = some v0 ∧ w1.cell? ⟨s, 1, none⟩ = some v1 ∧ w1.cell? ⟨s, 2, none⟩ = some v2 := by
  obtain ⟨h0, h1, h2⟩ := h
  exact ⟨hk.cell h0 hs, hk.cell h1 hs, hk.cell h2 hs⟩
set_option maxHeartbeats 2000000 in
theorem ulay_any {w : World} {F : Nat → Prop} {g b N n cp c j p : Nat} {v : Option Nat} {A : Option Addr} {r R : List Nat} {M : Nat → Option Nat} {f : Nat → Nat} (h : QuR w F g b A n cp R M c) (hst : HSt N p j v R M f (· ∈ r)) (hs : r.Pairwise (· < ·)) (hl : r.length = N) (hN : N ≤ 1000000) (hc : c ≤ N) (hv : v = none → c + 1 ≤ N) :
    Calls Try.prog 20 #[.pointer (some ⟨g, 0, none⟩), .int .i64 (p : Int), jbV j] w (UlPost w F g b A n cp r) := by
  have hlt := h.lt
  have hmono : ∀ k, (fun k => F k ∧ k < w.heap.size) k → F k := fun k hk => hk.1
  obtain ⟨G, hG⟩ : ∃ G : Nat → Prop, G = fun k => F k ∧ k < w.heap.size := ⟨_, rfl⟩
  rw [← hG] at hlt hmono
  have hsG : ¬ G w.heap.size := by rw [hG]; simp
  have HI : Hid (RsI w G g b w.heap.size N A n cp c j v (· ∈ r) R M f p (w.alloc (.cells #[.int .u32 (jO j : Int), .int .u16 (jS j : Int), .int .i64 (jG j)] 36))) :=
    ⟨hst, hlt.no (Kp.alloc No w _), Kp.alloc G w _, Bx3.new w _ _ _ _, hsG⟩
  have HM := hide hmono
  have HS := hide (And.intro hs hl)
  have HB := hide (And.intro hN (And.intro hc hv))
  have HG := hide hsG
  clear h hst hs hl hN hc hv hlt hmono hG hsG
  go_enter Try.func20, Try.ntmps20
  go_upto_region 1 with (fail)
  generalize w.alloc (.cells #[.int .u32 (jO j : Int), .int .u16 (jS j : Int), .int .i64 (jG j)] 36) = wa at HI ⊢
  generalize w.heap.size = s at HI HG ⊢
  obtain ⟨j0, j1, j2⟩ := HI.out.bx.cell
  have HR := hide (fun w' (hk : Kp No wa w') => urisen_any (HI.out.qu.no hk) HI.out.st HB.out.1 (by have := HB.out; omega))
  have HU := hide (fun w' R1 M1 f1 p1 (q1 : QuR w' G g b A n cp R1 M1 c) (s1 : HSt N p1 j v R1 M1 f1 (· ∈ r)) (u1 : UpOk p1 f1) => usunk_any q1 s1 u1 HB.out.1 (by have := HB.out; omega))
  go_region_held3 (fun w' => w'.cell? ⟨s, 0, none⟩ = some (.int .u32 (jO j : Int)) ∧ w'.cell? ⟨s, 1, none⟩ = some (.int .u16 (jS j : Int)) ∧ w'.cell? ⟨s, 2, none⟩ = some (.int .i64 (jG j))) (first | assumption | go_keep)
    (first
      | (go_at_call 26; ((with_reducible refine (HR.out _ (Kp.refl No wa).drew).mono ?_); rintro e w1 ⟨R1, M1, f1, p1, rfl, st1, up1, -, qu1, k1⟩); have s1 := kept3s k1 HG.out (by assumption))
      | (go_at_call 25; ((with_reducible refine (HU.out _ _ _ _ _ qu1 st1 up1).mono ?_); rintro e w2 ⟨R2, M2, f2, p2, rfl, st2, up2, dn2, qu2, k2⟩); have s2 := kept3s k2 HG.out (by assumption)))
  have hQ := QOk.of_hst st2 up2 dn2 HS.out.1 HS.out.2
  have HQ := hide hQ
  have HW := hide (uset_any (c' := N) (x := j) qu2 (by rw [st2.len]; exact st2.pl) (by rw [st2.len]; exact HB.out.1) (by have := HB.out; omega) HB.out.2.1 (fun e => HB.out.2.2 (by rw [← st2.vj]; exact e)))
  have HL : Hid ((R2.set p2 j).length = N) := by
    show _ = _
    rw [List.length_set]
    exact st2.len
  have HK : Hid (Kp F w w2) := ((HI.out.kp.trans' ((Kp.refl G wa).drew)).trans' (k1.trans' k2)).mono HM.out
  have HF := hide (HM.out)
  obtain ⟨j0, j1, j2⟩ := (((HI.out.bx.no (Kp.refl No wa).drew).keep k1 HG.out).keep k2 HG.out).cell
  go_wp2_with fail
  refine HW.out.mono ?_
  rintro e w3 ⟨rfl, h3, k3⟩
  have H3 := hide h3
  have K3 := hide k3
  clear h3 k3 HW
  go_wp2_with fail
  go_end0
  refine ⟨rfl, ⟨_, _, ?_, HQ.out⟩, HK.out.trans' (K3.out.mono HF.out)⟩
  rw [HL.out]
  exact H3.out.mono HF.out
end Go.Proofs.Ytjbnbbblafmldaa
