/- Package urgent's set, child, risen, sunk and lay, each as a contract. No condition. -/
import Derived.Test.YtjbnbbblafmldaaUbak
import Derived.StillTailTactics
namespace Go.Proofs.Ytjbnbbblafmldaa
open Go.RowKit
set_option linter.unusedVariables false
set_option linter.unusedSimpArgs false
set_option maxRecDepth 20000

/-- One job, one place are set. -/
def UsPost (w : World) (F : Nat → Prop) (g b : Nat) (A : Option Addr) (n cp : Nat) (R : List Nat) (M : Nat → Option Nat) (c : Nat) (e : Ending) (w1 : World) : Prop := e = .returned (.tuple #[]) ∧ QuR w1 F g b A n cp R M c ∧ Kp F w w1
/-- A job's box. -/
abbrev BxJ (w : World) (s x : Nat) : Prop := Bx3 36 w s (.int .u32 (jO x : Int)) (.int .u16 (jS x : Int)) (.int .i64 (jG x))
/-- A job is written into the row; a map is turned. -/
theorem QuR.wrote {w : World} {F : Nat → Prop} {g b n cp c gj p : Nat} {R : List Nat} {M : Nat → Option Nat} (h : QuR w F g b (some ⟨gj, 0, none⟩) n cp R M c) (hp : p < R.length) (x : Nat) :
    QuR (((w.setCell ⟨gj, p * 3, none⟩ (.int .u32 (jO x : Int))).setCell ⟨gj, p * 3 + 1, none⟩ (.int .u16 (jS x : Int))).setCell ⟨gj, p * 3 + 2, none⟩ (.int .i64 (jG x))) F g b (some ⟨gj, 0, none⟩) n cp (R.set p x) M c ∧
    Kp F w (((w.setCell ⟨gj, p * 3, none⟩ (.int .u32 (jO x : Int))).setCell ⟨gj, p * 3 + 1, none⟩ (.int .u16 (jS x : Int))).setCell ⟨gj, p * 3 + 2, none⟩ (.int .i64 (jG x))) := by
  have k1 := kp3_at (S := fun q => q = gj) w gj (p * 3) (.int .u32 (jO x : Int)) (.int .u16 (jS x : Int)) (.int .i64 (jG x)) rfl
  exact ⟨⟨(k1.block g h.glt fun e => h.nvg (by rw [e]; rfl)).trans h.blk, JbR.set h.row hp x, h.mp.keep k1 fun e => h.nvb (by rw [e]; rfl), h.fg, h.fb, h.fv⟩, k1.mono fun q hq => h.fv q (by rw [hq]; rfl)⟩
theorem QuR.map_ {w w1 : World} {F : Nat → Prop} {g b n cp c c' : Nat} {A : Option Addr} {R : List Nat} {M M' : Nat → Option Nat} (h : QuR w F g b A n cp R M c) (hk : Kp (fun q => q = b) w w1) (hm : MpU w1 b M' c') : QuR w1 F g b A n cp R M' c' ∧ Kp F w w1 :=
  ⟨⟨(hk.block g h.glt h.ngb).trans h.blk, OwnT.keep h.row hk fun k hk' e => h.nvb (by rw [← e]; exact hk'), hm, h.fg, h.fb, h.fv⟩, hk.mono fun q hq => by rw [hq]; exact h.fb⟩
set_option maxHeartbeats 1000000 in
theorem uset_any {w : World} {F : Nat → Prop} {g b n cp c c' p x : Nat} {A : Option Addr} {R : List Nat} {M : Nat → Option Nat} (h : QuR w F g b A n cp R M c) (hp : p < R.length) (hR : R.length ≤ 1000000) (hc : c ≤ 1000000) (h1 : c ≤ c') (h2 : M (ky x) = none → c + 1 ≤ c') :
    Calls Try.prog 27 #[.pointer (some ⟨g, 0, none⟩), .int .i64 (p : Int), jbV x] w (UsPost w F g b A n cp (R.set p x) (updM M (ky x) (some p)) c') := by
  have hn := h.len
  obtain ⟨gj, rfl, _⟩ := OwnT.some_ h.row (by omega)
  have KA := Kp.alloc No w (.cells #[.int .u32 (jO x : Int), .int .u16 (jS x : Int), .int .i64 (jG x)] 36)
  have HA := hide (h.no KA)
  have KF := hide (KA.of_no F)
  have HX : Hid (BxJ (w.alloc (.cells #[.int .u32 (jO x : Int), .int .u16 (jS x : Int), .int .i64 (jG x)] 36)) w.heap.size x) := Bx3.new w 36 _ _ _
  obtain ⟨x0, x1, x2⟩ := HX.out.cell
  have x3 := HA.out.c0
  have x4 := HA.out.fz
  have f0 := OwnT.fz HA.out.row (p * 3)
  have f1 := OwnT.fz HA.out.row (p * 3 + 1)
  have f2 := OwnT.fz HA.out.row (p * 3 + 2)
  obtain ⟨y, hy⟩ : ∃ y, R[p]? = some y := ⟨_, List.getElem?_eq_getElem hp⟩
  obtain ⟨y0, y1, y2⟩ := JbR.cells HA.out.row hy
  have hpn : (p : Int) < n := by omega
  have hjl := OwnT.lt h.row gj rfl
  have HP := hide hp
  have HN := hide hn
  have HR := hide hR
  have HC := hide hc
  have H1 := hide h1
  have H2 := hide h2
  clear h KA hy hn hp hR hc h1 h2
  go_enter Try.func27, Try.ntmps27
  go_upto_region 1 with (fail)
  generalize w.alloc (.cells #[.int .u32 (jO x : Int), .int .u16 (jS x : Int), .int .i64 (jG x)] 36) = wa at HA KF HX x0 x1 x2 x3 x4 f0 f1 f2 y0 y1 y2 ⊢
  generalize w.heap.size = s at HX x0 x1 x2 hjl ⊢
  go_region
  go_upto_region 2 with (fail)
  obtain ⟨HB, HKB⟩ := HA.out.wrote HP.out x
  have z0 := kp3_at (S := fun q => q = gj) wa gj (p * 3) (.int .u32 (jO x : Int)) (.int .u16 (jS x : Int)) (.int .i64 (jG x)) rfl
  have z1 := HX.out.keep z0 (by omega)
  clear x0 x1 x2 x3 x4 f0 f1 f2 y0 y1 y2 z0 HX HA
  generalize ((wa.setCell ⟨gj, p * 3, none⟩ (.int .u32 (jO x : Int))).setCell ⟨gj, p * 3 + 1, none⟩ (.int .u16 (jS x : Int))).setCell ⟨gj, p * 3 + 2, none⟩ (.int .i64 (jG x)) = wb at HB HKB z1 ⊢
  obtain ⟨x0, x1, x2⟩ := z1.cell
  have x3 := HB.c1
  obtain ⟨wc, hput, hm, hk⟩ := MpU.put (w := wb.drew.drew) (k := ky x) (i := p) (HB.mp.no (((Kp.refl No wb).drew).drew)) (ky_lt x) (by have := HP.out; have := HR.out; omega) (by have := HC.out; omega) H1.out H2.out
  have HQ := hide (HB.map_ (w1 := wc) (((Kp.refl _ wb).drew.drew).trans' hk) hm)
  have HKK := hide (KF.out.trans' HKB)
  clear HB HKB z1 hm hk
  change (Instr.mapUpdate 48 (.map (some b)) (.agg #[.int .u32 (jO x : Int), .int .u16 (jS x : Int)]) (.int .i64 (p : Int))).run Try.prog wb.drew.drew = .ok () wc at hput
  go_region
  go_end0
  exact ⟨rfl, HQ.out.1, HKK.out.trans' HQ.out.2⟩
end Go.Proofs.Ytjbnbbblafmldaa
