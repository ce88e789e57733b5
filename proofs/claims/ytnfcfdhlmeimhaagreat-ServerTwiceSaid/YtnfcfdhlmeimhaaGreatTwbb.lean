/- Package vault's Begin, Put and Drop, as contracts over memory. -/
import Derived.Test.YtnfcfdhlmeimhaaGreatTway
import Derived.Test.YtnfcfdhlmeimhaaGreatTwar
import Derived.Test.YtnfcfdhlmeimhaaGreatTwba
namespace Go.Proofs.YtnfcfdhlmeimhaaGreat
open Go.RowKit
set_option linter.unusedVariables false
set_option linter.unusedSimpArgs false
set_option maxRecDepth 20000

theorem fstZ_fre (n : Nat) (L : List (Nat × Nat)) : fstZ n (usd L) = if fre n L < n then (fre n L : Int) else -1 := rfl
/-- What a call that writes comes to. -/
def VtPost (w : World) (F : Nat → Prop) (g gd : Nat) (V' : Vt) (v : Value) (e : Ending) (w1 : World) : Prop := e = .returned v ∧ (∃ b, VtR w1 (Up F w) g gd b V') ∧ Kp F w w1
theorem VtPost.same {w w1 : World} {F : Nat → Prop} {g gd b : Nat} {V : Vt} {z : Int} {n : Nat} (h : VtR w F g gd b V) (hk : Kp No w w1) (hz : z = (n : Int)) : VtPost w F g gd V (.int .i64 (n : Int)) (.returned (.int .i64 z)) w1 :=
  ⟨by rw [hz], ⟨b, h.up hk⟩, hk.of_no _⟩
set_option maxHeartbeats 2000000 in
theorem begin_twice {w : World} {F : Nat → Prop} {g gd b s n c : Nat} {A : Option Addr} {bs : List UInt8} {V : Vt} (h : VtR w F g gd b V) (hs : s < N96) (hb : Bts w (.slice A n c) bs) (hbl : bs.length ≤ 800000000) (hk : kn V.L s = true) : Calls Tryz.prog 43 #[.pointer (some ⟨g, 0, none⟩), shV s, .slice A n c] w (VtPost w F g gd (V.bg s bs) (.int .i64 (V.bgE s bs : Int))) := by
  have hm0 := fun w' (hk : Kp No w w') => vmade_any (h.blk.no hk)
  have hh0 := fun w' (hk : Kp No w w') => vhas_any (h.blk.no hk) (h.mp.no hk) hs
  have hf0 := fun w' (hk : Kp No w w') => framed_any hs (hb.no hk) hbl
  have HM := hide hm0
  have HH := hide hh0
  have HF := hide hf0
  have c0 := h.blk.c0
  have HR := hide h
  have HS := hide hs
  have HSV : Hid (Value.agg #[.int .u32 (cO s : Int), .int .u16 (cS s : Int), .int .u16 (cL s : Int), .int .u32 (cG s : Int)] = shV s) := hide rfl
  have hbx := Bx4.new w (.int .u32 (cO s : Int)) (.int .u16 (cS s : Int)) (.int .u16 (cL s : Int)) (.int .u32 (cG s : Int))
  have HBX := hide hbx
  clear hm0 hh0 hf0 hb hs hbx
  have hE : V.bgE s bs = 7 := by unfold Vt.bgE; rw [if_pos hk]
  have hB : V.bg s bs = V := Vt.bg_no (by omega)
  rw [hE, hB]
  rw [hk] at HH
  clear hE hB
  unfold shV at HM HH HF ⊢
  generalize cO s = o0 at HM HH HF HSV HBX ⊢
  generalize cS s = o1 at HM HH HF HSV HBX ⊢
  generalize cL s = o2 at HM HH HF HSV HBX ⊢
  generalize cG s = o3 at HM HH HF HSV HBX ⊢
  go_enter Tryz.func43, Tryz.ntmps43
  go_wp2_with fail
  refine (HM.out _ (Kp.alloc No w (.cells #[.int .u32 (o0 : Int), .int .u16 (o1 : Int), .int .u16 (o2 : Int), .int .u32 (o3 : Int)] 53))).mono ?_
  rintro e w' ⟨rfl, rfl⟩
  go_wp2_with fail
  refine (HH.out _ (Kp.alloc No w (.cells #[.int .u32 (o0 : Int), .int .u16 (o1 : Int), .int .u16 (o2 : Int), .int .u32 (o3 : Int)] 53))).mono ?_
  rintro e w1 ⟨rfl, hk1⟩
  have k1 := (Kp.alloc No w (.cells #[.int .u32 (o0 : Int), .int .u16 (o1 : Int), .int .u16 (o2 : Int), .int .u32 (o3 : Int)] 53)).trans' hk1
  go_wp2_with fail
  go_ret
  exact VtPost.same HR.out k1 rfl
set_option maxHeartbeats 2000000 in
theorem begin_long {w : World} {F : Nat → Prop} {g gd b s n c : Nat} {A : Option Addr} {bs : List UInt8} {V : Vt} (h : VtR w F g gd b V) (hs : s < N96) (hb : Bts w (.slice A n c) bs) (hbl : bs.length ≤ 800000000) (hk : kn V.L s = false) (hlo : 65524 < bs.length ∨ V.D.size < 24 + bs.length) : Calls Tryz.prog 43 #[.pointer (some ⟨g, 0, none⟩), shV s, .slice A n c] w (VtPost w F g gd (V.bg s bs) (.int .i64 (V.bgE s bs : Int))) := by
  have hm0 := fun w' (hk : Kp No w w') => vmade_any (h.blk.no hk)
  have hh0 := fun w' (hk : Kp No w w') => vhas_any (h.blk.no hk) (h.mp.no hk) hs
  have hf0 := fun w' (hk : Kp No w w') => framed_any hs (hb.no hk) hbl
  have HM := hide hm0
  have HH := hide hh0
  have HF := hide hf0
  have c0 := h.blk.c0
  have HR := hide h
  have HS := hide hs
  have HSV : Hid (Value.agg #[.int .u32 (cO s : Int), .int .u16 (cS s : Int), .int .u16 (cL s : Int), .int .u32 (cG s : Int)] = shV s) := hide rfl
  have hbx := Bx4.new w (.int .u32 (cO s : Int)) (.int .u16 (cS s : Int)) (.int .u16 (cL s : Int)) (.int .u32 (cG s : Int))
  have HBX := hide hbx
  clear hm0 hh0 hf0 hb hs hbx
  have hE : V.bgE s bs = 29 := by unfold Vt.bgE; rw [if_neg (by rw [hk]; simp), if_pos hlo]
  have hB : V.bg s bs = V := Vt.bg_no (by omega)
  rw [hE, hB]
  rw [hk] at HH
  clear hE hB
  unfold shV at HM HH HF ⊢
  generalize cO s = o0 at HM HH HF HSV HBX ⊢
  generalize cS s = o1 at HM HH HF HSV HBX ⊢
  generalize cL s = o2 at HM HH HF HSV HBX ⊢
  generalize cG s = o3 at HM HH HF HSV HBX ⊢
  go_enter Tryz.func43, Tryz.ntmps43
  go_wp2_with fail
  refine (HM.out _ (Kp.alloc No w (.cells #[.int .u32 (o0 : Int), .int .u16 (o1 : Int), .int .u16 (o2 : Int), .int .u32 (o3 : Int)] 53))).mono ?_
  rintro e w' ⟨rfl, rfl⟩
  go_wp2_with fail
  refine (HH.out _ (Kp.alloc No w (.cells #[.int .u32 (o0 : Int), .int .u16 (o1 : Int), .int .u16 (o2 : Int), .int .u32 (o3 : Int)] 53))).mono ?_
  rintro e w1 ⟨rfl, hk1⟩
  have k1 := (Kp.alloc No w (.cells #[.int .u32 (o0 : Int), .int .u16 (o1 : Int), .int .u16 (o2 : Int), .int .u32 (o3 : Int)] 53)).trans' hk1
  obtain ⟨p0, p1, p2, p3⟩ := (HBX.out.keep hk1 (fun f => f)).cell
  go_wp2_with fail
  refine (HF.out _ k1).mono ?_
  rintro e w2 ⟨A2, n2, c2, rfl, ho2, hk2⟩
  have hl2 := hide ho2.len
  have k2 := k1.trans' hk2
  have c2' := kp_cell c0 k2
  go_wp2_with fail
  refine (plen_any (HR.out.dk.no k2)).mono ?_
  rintro e w3 ⟨rfl, hk3⟩
  have k3 := k2.trans' hk3
  clear c2'
  by_cases h5 : bs.length ≤ 65524
  · rw [if_pos h5] at hl2
    have hne : ((n2 : Int) == 0) = false := by have := hl2.out; rw [frV_len] at this; simp; omega
    have hgt : (V.D.size : Int) < (n2 : Int) := by have := hl2.out; rw [frV_len] at this; omega
    go_wp2_with fail
    go_ret
    exact VtPost.same HR.out k3 rfl
  · rw [if_neg h5] at hl2
    obtain rfl : n2 = 0 := by simpa using hl2.out
    clear hl2
    go_wp2_with fail
    go_ret
    exact VtPost.same HR.out k3 rfl
set_option maxHeartbeats 2000000 in
theorem begin_full {w : World} {F : Nat → Prop} {g gd b s n c : Nat} {A : Option Addr} {bs : List UInt8} {V : Vt} (h : VtR w F g gd b V) (hs : s < N96) (hb : Bts w (.slice A n c) bs) (hbl : bs.length ≤ 800000000) (hk : kn V.L s = false) (h5 : bs.length ≤ 65524) (h6 : 24 + bs.length ≤ V.D.size) (hcn : V.D.cells.length ≤ 1000) (hfu : ¬ V.free < V.n) : Calls Tryz.prog 43 #[.pointer (some ⟨g, 0, none⟩), shV s, .slice A n c] w (VtPost w F g gd (V.bg s bs) (.int .i64 (V.bgE s bs : Int))) := by
  have hm0 := fun w' (hk : Kp No w w') => vmade_any (h.blk.no hk)
  have hh0 := fun w' (hk : Kp No w w') => vhas_any (h.blk.no hk) (h.mp.no hk) hs
  have hf0 := fun w' (hk : Kp No w w') => framed_any hs (hb.no hk) hbl
  have HM := hide hm0
  have HH := hide hh0
  have HF := hide hf0
  have c0 := h.blk.c0
  have HR := hide h
  have HS := hide hs
  have HSV : Hid (Value.agg #[.int .u32 (cO s : Int), .int .u16 (cS s : Int), .int .u16 (cL s : Int), .int .u32 (cG s : Int)] = shV s) := hide rfl
  have hbx := Bx4.new w (.int .u32 (cO s : Int)) (.int .u16 (cS s : Int)) (.int .u16 (cL s : Int)) (.int .u32 (cG s : Int))
  have HBX := hide hbx
  clear hm0 hh0 hf0 hb hs hbx
  have hE : V.bgE s bs = 20 := by unfold Vt.bgE; rw [if_neg (by rw [hk]; simp), if_neg (by omega), if_neg hfu]
  have hB : V.bg s bs = V := Vt.bg_no (by omega)
  rw [hE, hB]
  rw [hk] at HH
  clear hE hB
  unfold shV at HM HH HF ⊢
  generalize cO s = o0 at HM HH HF HSV HBX ⊢
  generalize cS s = o1 at HM HH HF HSV HBX ⊢
  generalize cL s = o2 at HM HH HF HSV HBX ⊢
  generalize cG s = o3 at HM HH HF HSV HBX ⊢
  go_enter Tryz.func43, Tryz.ntmps43
  go_wp2_with fail
  refine (HM.out _ (Kp.alloc No w (.cells #[.int .u32 (o0 : Int), .int .u16 (o1 : Int), .int .u16 (o2 : Int), .int .u32 (o3 : Int)] 53))).mono ?_
  rintro e w' ⟨rfl, rfl⟩
  go_wp2_with fail
  refine (HH.out _ (Kp.alloc No w (.cells #[.int .u32 (o0 : Int), .int .u16 (o1 : Int), .int .u16 (o2 : Int), .int .u32 (o3 : Int)] 53))).mono ?_
  rintro e w1 ⟨rfl, hk1⟩
  have k1 := (Kp.alloc No w (.cells #[.int .u32 (o0 : Int), .int .u16 (o1 : Int), .int .u16 (o2 : Int), .int .u32 (o3 : Int)] 53)).trans' hk1
  obtain ⟨p0, p1, p2, p3⟩ := (HBX.out.keep hk1 (fun f => f)).cell
  go_wp2_with fail
  refine (HF.out _ k1).mono ?_
  rintro e w2 ⟨A2, n2, c2, rfl, ho2, hk2⟩
  have hl2 := hide ho2.len
  have k2 := k1.trans' hk2
  have c2' := kp_cell c0 k2
  go_wp2_with fail
  refine (plen_any (HR.out.dk.no k2)).mono ?_
  rintro e w3 ⟨rfl, hk3⟩
  have k3 := k2.trans' hk3
  clear c2'
  rw [if_pos h5] at hl2 ho2
  have hne : ((n2 : Int) == 0) = false := by have := hl2.out; rw [frV_len] at this; simp; omega
  have hgt : ¬ (V.D.size : Int) < (n2 : Int) := by have := hl2.out; rw [frV_len] at this; omega
  have HO2 := hide ho2
  clear ho2
  have hfr := free_any (HR.out.blk.no k3) (HR.out.mp.no k3) (HR.out.dk.no k3) hcn HR.out.ok.kn
  rw [fstZ_fre] at hfr
  have hfu' : ¬ fre V.D.cells.length V.L < V.D.cells.length := hfu
  rw [if_neg hfu'] at hfr
  clear hfu'
  go_wp2_with fail
  refine hfr.mono ?_
  rintro e w4 ⟨rfl, hk4⟩
  clear hfr
  go_wp2_with fail
  go_ret
  exact VtPost.same HR.out (k3.trans' hk4) rfl
set_option maxHeartbeats 2000000 in
theorem begin_yes {w : World} {F : Nat → Prop} {g gd b s n c : Nat} {A : Option Addr} {bs : List UInt8} {V : Vt} (h : VtR w F g gd b V) (hs : s < N96) (hb : Bts w (.slice A n c) bs) (hbl : bs.length ≤ 800000000) (hk : kn V.L s = false) (h5 : bs.length ≤ 65524) (h6 : 24 + bs.length ≤ V.D.size) (hcn : V.D.cells.length ≤ 1000) (hlo2 : V.D.loose.length + 1 ≤ 1000000) (hfu : V.free < V.n) : Calls Tryz.prog 43 #[.pointer (some ⟨g, 0, none⟩), shV s, .slice A n c] w (VtPost w F g gd (V.bg s bs) (.int .i64 (V.bgE s bs : Int))) := by
  have hm0 := fun w' (hk : Kp No w w') => vmade_any (h.blk.no hk)
  have hh0 := fun w' (hk : Kp No w w') => vhas_any (h.blk.no hk) (h.mp.no hk) hs
  have hf0 := fun w' (hk : Kp No w w') => framed_any hs (hb.no hk) hbl
  have HM := hide hm0
  have HH := hide hh0
  have HF := hide hf0
  have c0 := h.blk.c0
  have HR := hide h
  have HS := hide hs
  have HSV : Hid (Value.agg #[.int .u32 (cO s : Int), .int .u16 (cS s : Int), .int .u16 (cL s : Int), .int .u32 (cG s : Int)] = shV s) := hide rfl
  have hbx := Bx4.new w (.int .u32 (cO s : Int)) (.int .u16 (cS s : Int)) (.int .u16 (cL s : Int)) (.int .u32 (cG s : Int))
  have HBX := hide hbx
  clear hm0 hh0 hf0 hb hs hbx
  have hE : V.bgE s bs = 0 := by unfold Vt.bgE; rw [if_neg (by rw [hk]; simp), if_neg (by omega), if_pos hfu]
  have hB := Vt.bg_yes hE
  have hput := Vt.bg_put hE
  have hokB := HR.out.ok.bg (b := bs) HS.out
  rw [hE, hB]
  rw [hB] at hokB
  rw [hk] at HH
  have HKN := hide hk
  have HPT := hide hput
  have HOK := hide hokB
  clear hE hB hput hokB hk
  unfold shV at HM HH HF ⊢
  generalize cO s = o0 at HM HH HF HSV HBX ⊢
  generalize cS s = o1 at HM HH HF HSV HBX ⊢
  generalize cL s = o2 at HM HH HF HSV HBX ⊢
  generalize cG s = o3 at HM HH HF HSV HBX ⊢
  go_enter Tryz.func43, Tryz.ntmps43
  go_wp2_with fail
  refine (HM.out _ (Kp.alloc No w (.cells #[.int .u32 (o0 : Int), .int .u16 (o1 : Int), .int .u16 (o2 : Int), .int .u32 (o3 : Int)] 53))).mono ?_
  rintro e w' ⟨rfl, rfl⟩
  go_wp2_with fail
  refine (HH.out _ (Kp.alloc No w (.cells #[.int .u32 (o0 : Int), .int .u16 (o1 : Int), .int .u16 (o2 : Int), .int .u32 (o3 : Int)] 53))).mono ?_
  rintro e w1 ⟨rfl, hk1⟩
  have k1 := (Kp.alloc No w (.cells #[.int .u32 (o0 : Int), .int .u16 (o1 : Int), .int .u16 (o2 : Int), .int .u32 (o3 : Int)] 53)).trans' hk1
  obtain ⟨p0, p1, p2, p3⟩ := (HBX.out.keep hk1 (fun f => f)).cell
  go_wp2_with fail
  refine (HF.out _ k1).mono ?_
  rintro e w2 ⟨A2, n2, c2, rfl, ho2, hk2⟩
  have hl2 := hide ho2.len
  have k2 := k1.trans' hk2
  have c2' := kp_cell c0 k2
  go_wp2_with fail
  refine (plen_any (HR.out.dk.no k2)).mono ?_
  rintro e w3 ⟨rfl, hk3⟩
  have k3 := k2.trans' hk3
  clear c2'
  rw [if_pos h5] at hl2 ho2
  have hne : ((n2 : Int) == 0) = false := by have := hl2.out; rw [frV_len] at this; simp; omega
  have hgt : ¬ (V.D.size : Int) < (n2 : Int) := by have := hl2.out; rw [frV_len] at this; omega
  have HO2 := hide ho2
  clear ho2
  have hfr := free_any (HR.out.blk.no k3) (HR.out.mp.no k3) (HR.out.dk.no k3) hcn HR.out.ok.kn
  rw [fstZ_fre] at hfr
  have HQU := hide (fre_lt (L := V.L) (n := V.n) hfu)
  have hfu' : fre V.D.cells.length V.L < V.D.cells.length := hfu
  rw [if_pos hfu'] at hfr
  clear hfu'
  generalize hqf : V.free = q at HPT HOK
  have hqf2 : fre V.D.cells.length V.L = q := hqf
  rw [show fre V.n V.L = q from hqf] at HQU
  rw [hqf2] at hfr
  have hq1 : q < 1024 := by have := hfu; rw [hqf] at this; unfold Vt.n at this; omega
  have HQ1 := hide hq1
  have HFU := hide hqf
  clear hfu hqf hqf2
  go_wp2_with fail
  refine hfr.mono ?_
  rintro e w4 ⟨rfl, hk4⟩
  clear hfr
  have k4 := k3.trans' hk4
  have c4 := kp_cell c0 k4
  have hqz : ¬ (q : Int) < 0 := by omega
  go_wp2_with fail
  refine (pwrite_any (HR.out.dk.lt.no k4) (HO2.out.bts.no (hk3.trans' hk4)) hlo2 (q : Int)).mono ?_
  rintro e w5 ⟨rfl, hd5, hk5⟩
  have hb4 := (((HBX.out.keep hk1 (fun f => f)).keep hk2 (fun f => f)).keep hk3 (fun f => f)).keep hk4 (fun f => f)
  have hwn : ¬ (fun k => Fd F g b k ∧ k < w.heap.size) w.heap.size := fun hf => Nat.lt_irrefl _ hf.2
  obtain ⟨q0, q1, q2, q3⟩ := (hb4.keep hk5 hwn).cell
  have m5 := (HR.out.mp.no k4).keep hk5 (fun f => f.1.2.2 rfl)
  have b5 := (HR.out.blk.no k4).keep hk5 (fun f => f.1.2.1 rfl)
  have c5 := b5.c1
  have HM5 := hide m5
  clear p0 p1 p2 p3 c4 m5 hgt hqz
  go_wp2_with fail
  refine wp_region_noPanic ?_
  refine LastR.begin (S := fun w' => w'.cell? ⟨g, 1, none⟩ = some (.map (some b)) ∧ w'.cell? ⟨w.heap.size, 0, none⟩ = some (.int .u32 (o0 : Int)) ∧ w'.cell? ⟨w.heap.size, 1, none⟩ = some (.int .u16 (o1 : Int)) ∧ w'.cell? ⟨w.heap.size, 2, none⟩ = some (.int .u16 (o2 : Int)) ∧ w'.cell? ⟨w.heap.size, 3, none⟩ = some (.int .u32 (o3 : Int)) ∧ MpAt w' b V.L) (t := 6) (by kernel_rfl) (⟨c5, q0, q1, q2, q3, HM5.out⟩) (fun hHeld => ?_)
  refine LastR.take (i := 0) (v := ?v0) (oi := ?o0) ?h0 (by kernel_rfl) (by kernel_rfl) (by kernel_rfl) (by kernel_rfl) (fun _ _ _ h => h) (Or.inl ⟨?w0, ?y0⟩) hHeld ?r0
  case h0 => simp only [List.getElem?_toArray, List.getElem?_cons_zero, List.getElem?_cons_succ]; rfl
  case w0 => rfl
  case y0 => intro w hSw; (try dsimp only at hSw); go_simp; (try with_reducible rfl)
  simp only [Act.put, List.setIfInBounds_toArray, List.set_cons_zero, List.set_cons_succ]
  refine LastR.take (i := 1) (v := ?v1) (oi := ?o1) ?h1 (by kernel_rfl) (by kernel_rfl) (by kernel_rfl) (by kernel_rfl) (fun _ _ _ h => h) (Or.inl ⟨?w1, ?y1⟩) hHeld ?r1
  case h1 => simp only [List.getElem?_toArray, List.getElem?_cons_zero, List.getElem?_cons_succ]; rfl
  case w1 => rfl
  case y1 => intro w hSw; (try dsimp only at hSw); go_simp; (try with_reducible rfl)
  simp only [Act.put, List.setIfInBounds_toArray, List.set_cons_zero, List.set_cons_succ]
  refine LastR.take (i := 2) (v := ?v2) (oi := ?o2) ?h2 (by kernel_rfl) (by kernel_rfl) (by kernel_rfl) (by kernel_rfl) (fun _ _ _ h => h) (Or.inl ⟨?w2, ?y2⟩) hHeld ?r2
  case h2 => simp only [List.getElem?_toArray, List.getElem?_cons_zero, List.getElem?_cons_succ]; rfl
  case w2 => rfl
  case y2 => intro w hSw; (try dsimp only at hSw); go_simp; (try with_reducible rfl)
  simp only [Act.put, List.setIfInBounds_toArray, List.set_cons_zero, List.set_cons_succ]
  refine LastR.take (i := 3) (v := ?v3) (oi := ?o3) ?h3 (by kernel_rfl) (by kernel_rfl) (by kernel_rfl) (by kernel_rfl) (fun _ _ _ h => h) (Or.inl ⟨?w3, ?y3⟩) hHeld ?r3
  case h3 => simp only [List.getElem?_toArray, List.getElem?_cons_zero, List.getElem?_cons_succ]; rfl
  case w3 => rfl
  case y3 => intro w hSw; (try dsimp only at hSw); go_simp; (try with_reducible rfl)
  simp only [Act.put, List.setIfInBounds_toArray, List.set_cons_zero, List.set_cons_succ]
  refine LastR.take (i := 4) (v := ?v4) (oi := ?o4) ?h4 (by kernel_rfl) (by kernel_rfl) (by kernel_rfl) (by kernel_rfl) (fun _ _ _ h => h) (Or.inl ⟨?w4, ?y4⟩) hHeld ?r4
  case h4 => simp only [List.getElem?_toArray, List.getElem?_cons_zero, List.getElem?_cons_succ]; rfl
  case w4 => rfl
  case y4 => intro w hSw; (try dsimp only at hSw); go_simp; (try with_reducible rfl)
  simp only [Act.put, List.setIfInBounds_toArray, List.set_cons_zero, List.set_cons_succ]
  refine LastR.take (i := 5) (v := ?v5) (oi := ?o5) ?h5 (by kernel_rfl) (by kernel_rfl) (by kernel_rfl) (by kernel_rfl) (fun _ _ _ h => h) (Or.inl ⟨?w5, ?y5⟩) hHeld ?r5
  case h5 => simp only [List.getElem?_toArray, List.getElem?_cons_zero, List.getElem?_cons_succ]; rfl
  case w5 => rfl
  case y5 => intro w hSw; (try dsimp only at hSw); go_simp; (try with_reducible rfl)
  simp only [Act.put, List.setIfInBounds_toArray, List.set_cons_zero, List.set_cons_succ]
  refine LastR.run (i := 6) (o := ?o6) ?h6 (by kernel_rfl) (fun K hK => ?s6)
  case h6 => simp only [List.getElem?_toArray, List.getElem?_cons_zero, List.getElem?_cons_succ]; rfl
  refine step_mput (c := q) (s := s) (L := V.L) (b := b) rfl _ _ _ rfl rfl HSV.out rfl hHeld.2.2.2.2.2 HS.out HKN.out HQ1.out HQU.out ?_
  intro w9 hm9 hk9
  refine hK.out _ _ (fun h => absurd rfl h) (fun _ => ?_)
  clear hK K
  try simp only [Act.put, List.setIfInBounds_toArray, List.set_cons_zero, List.set_cons_succ]
  refine LastR.done (by kernel_rfl) ?_ _
  refine NoPanic.normal ?_
  go_wp2_with fail
  go_ret
  have kF : Kp (Fd F g b) w w5 := (k4.of_no _).trans' (hk5.mono fun k hk => hk.1)
  have h5 : VtR w5 (Up F w) g gd b ⟨V.D.put (q : Int) (frV s bs), V.L⟩ := HR.out.disk (put_n _ _ _) (hd5.mono fun k hk => hk.imp (fun a => a.1) (fun a => Nat.le_trans k4.size a)) kF
  have h9 := VtR.map (w := w5.drew) (w1 := w9) (h5.no (Kp.refl No w5).drew) hm9 hk9 HOK.out
  have hfin : VtPost w F g gd ⟨V.D.put (q : Int) (frV s bs), V.L ++ [(q, s)]⟩ (.int .i64 ((0 : Nat) : Int)) (.returned (.int .i64 0)) w9 :=
    ⟨rfl, ⟨b, h9⟩, (kF.mono fun k hk => hk.1).drew.trans' (hk9.mono fun k hk => by subst hk; exact HR.out.fb)⟩
  rw [← HFU.out] at hfin
  exact hfin
end Go.Proofs.YtnfcfdhlmeimhaaGreat
