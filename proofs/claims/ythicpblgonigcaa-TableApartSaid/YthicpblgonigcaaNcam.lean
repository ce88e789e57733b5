/- Package table's At, Find, Numbered, each as a contract. No condition. -/
import Derived.Test.YthicpblgonigcaaNcal
namespace Go.Proofs.Ythicpblgonigcaa
open Go.RowKit
set_option linter.unusedVariables false
set_option linter.unusedSimpArgs false
set_option maxRecDepth 20000

abbrev obZV : Value := .agg #[.int .u32 0, .string ByteArray.empty, .int .i64 0, .int .i64 0, .int .i64 0, .slice none 0 0]
/-- No object comes back; a copy of this one comes back. -/
def AtNo (w : World) (e : Ending) (w1 : World) : Prop := e = .returned (.tuple #[obZV, .bool false]) ∧ Kp No w w1
def AtYes (w : World) (o : Ob) (e : Ending) (w1 : World) : Prop := ∃ A n c, e = .returned (.tuple #[obV o (.slice A n c), .bool true]) ∧ PlR w1 (fun k => w.heap.size ≤ k) (.slice A n c) o.pl ∧ Kp No w w1
section
variable {w : World} {F : Nat → Prop} {g : Nat} {T : Tb} {o : Ob}
theorem tb_small (h : T.Ok) {i : Nat} (ho : T.os[i]? = some o) : o.pl.length ≤ 1000 ∧ ∀ l ∈ o.pl, l.length ≤ 1000 := by
  obtain ⟨a1, a2, a3, a4⟩ := okO_parts (h.rgt i o ho)
  have := okP_parts a2
  have := h.sl2
  exact ⟨by omega, fun l hl => by have := (okS_parts (a4 l hl)).1; omega⟩
theorem boxZ_at {w : World} {b : Nat} (h : Bx 54 w b obZ) : w.cell? ⟨b, 0, none⟩ = some (.int .u32 0) ∧ w.cell? ⟨b, 1, none⟩ = some (.string ByteArray.empty) ∧ w.cell? ⟨b, 2, none⟩ = some (.int .i64 0) ∧ w.cell? ⟨b, 3, none⟩ = some (.int .i64 0) ∧ w.cell? ⟨b, 4, none⟩ = some (.int .i64 0) ∧ w.cell? ⟨b, 5, none⟩ = some (.slice none 0 0) :=
  ⟨h.cell rfl, h.cell rfl, h.cell rfl, h.cell rfl, h.cell rfl, h.cell rfl⟩
theorem box_fz {t : TypeId} {w : World} {b : Nat} {xs : List Value} (h : Bx t w b xs) : w.frozen? ⟨b, 0, none⟩ = false ∧ w.frozen? ⟨b, 1, none⟩ = false ∧ w.frozen? ⟨b, 2, none⟩ = false ∧ w.frozen? ⟨b, 3, none⟩ = false ∧ w.frozen? ⟨b, 4, none⟩ = false ∧ w.frozen? ⟨b, 5, none⟩ = false :=
  ⟨h.fz 0, h.fz 1, h.fz 2, h.fz 3, h.fz 4, h.fz 5⟩
theorem PlR.box {w W : World} {F : Nat → Prop} {v : Value} {P : List (List Pc)} {b : Nat} {xs : List Value} (h : PlR w F v P) (hb : Bx 54 w b xs) (hk : Kp (fun q => q = b) w W) : PlR W F v P := by
  obtain ⟨us, h1, h2, h3⟩ := h
  refine ⟨us, h1.keep hk fun q hq e => ?_, h2, fun j u l hu hl => ?_⟩
  · subst e
    exact OwnT.not_at h1 hb (by decide) hq
  · have hp := h3 j u l hu hl
    refine ⟨hp.own.keep hk fun q hq e => ?_, hp.fv⟩
    subst e
    exact OwnT.not_at hp.own hb (by decide) hq
set_option maxHeartbeats 1000000 in
theorem tat_yes {i : Nat} (h : TbAt w F g T) (ho : T.os[i]? = some o) : Calls Try.prog 16 #[.pointer (some ⟨g, 0, none⟩), .int .i64 (i : Int)] w (AtYes w o) := by
  have hil := (List.getElem?_eq_some_iff.1 ho).1
  obtain ⟨hs1, hs2⟩ := tb_small h.ok ho
  have hka : Kp No w (w.alloc (.cells #[.int .u32 0, .string ByteArray.empty, .int .i64 0, .int .i64 0, .int .i64 0, .slice none 0 0] 54)) := Kp.alloc No _ _
  have hc := tlen_any (h.no hka)
  have hgl := h.glt
  obtain ⟨A, n, c, vs, h⟩ := h
  have hn := h.n_
  rw [← hn] at hc hil
  have c4 := h.c4
  obtain ⟨B, off, v, rfl, hB, hx, hp⟩ := h.rd.at_ i o ho
  have hBl := hx.lt
  obtain ⟨x0, x1, x2, x3, x4, x5⟩ := hx
  have hcp := tcopied_any (o := o) (hp.no hka) hs1 hs2
  have hiz : (i : Int) < n := by omega
  have HC := hide hc
  have HCP := hide hcp
  have HK := hide hka
  have hb := Bx.new w 54 obZ
  have HB := hide hb
  clear h ho hs1 hs2 hc hn hp hcp hB hka hb
  go_enter Try.func16, Try.ntmps16
  go_wp2_with fail
  refine HC.out.mono ?_
  rintro e w1 ⟨rfl, rfl⟩
  go_wp2_with fail
  refine HCP.out.mono ?_
  rintro e w1 ⟨A1, n1, c1, rfl, hpl, hk1⟩
  have hb1 := HB.out.no hk1
  obtain ⟨y0, y1, y2, y3, y4, y5⟩ := boxZ_at hb1
  obtain ⟨f0, f1, f2, f3, f4, f5⟩ := box_fz hb1
  have HPL := hide hpl
  have HK1 := hide hk1
  have HB1 := hide hb1
  clear hpl hk1 hb1
  go_wp2_with fail
  have k9 := kp6 (S := fun q => q = w.heap.size) w1 w.heap.size (.int .u32 (o.num : Int)) (.string (strOf o.nm)) (.int .i64 o.ln) (.int .i64 o.ct) (.int .i64 o.pc) (.slice A1 n1 c1) rfl
  have b9 := HB1.out.six (.int .u32 (o.num : Int)) (.string (strOf o.nm)) (.int .i64 o.ln) (.int .i64 o.ct) (.int .i64 o.pc) (.slice A1 n1 c1)
  generalize ((((((w1.setCell ⟨w.heap.size, 0, none⟩ (.int .u32 (o.num : Int))).setCell ⟨w.heap.size, 1, none⟩ (.string (strOf o.nm))).setCell ⟨w.heap.size, 2, none⟩ (.int .i64 o.ln)).setCell ⟨w.heap.size, 3, none⟩ (.int .i64 o.ct)).setCell ⟨w.heap.size, 4, none⟩ (.int .i64 o.pc)).setCell ⟨w.heap.size, 5, none⟩ (.slice A1 n1 c1)) = W at k9 b9 ⊢
  obtain ⟨r0, r1, r2, r3, r4, r5⟩ := Bx.at_ (o := o) (v := .slice A1 n1 c1) b9
  simp only [Nat.zero_add] at r1 r2 r3 r4 r5
  refine bodyPost_ret (v := .tuple #[obV o (.slice A1 n1 c1), .bool true]) (by simp [results, Try.results16, go_sem, r0, r1, r2, r3, r4, r5]) rfl ⟨A1, n1, c1, rfl, ?_, ?_⟩
  · exact (HPL.out.box HB1.out k9).mono fun k hk hf => by simp at hf; omega
  · exact (HK.out.trans' HK1.out).trans (k9.mono fun q hq => .inr (by omega))
set_option maxHeartbeats 1000000 in
theorem tfind_yes {s : List UInt8} {i : Nat} (h : TbAt w F g T) (hi : fNm T.os s = i) (ho : T.os[i]? = some o) : Calls Try.prog 17 #[.pointer (some ⟨g, 0, none⟩), .string (strOf s)] w (AtYes w o) := by
  have hil := (List.getElem?_eq_some_iff.1 ho).1
  have hka : Kp No w (w.alloc (.cells #[.int .u32 0, .string ByteArray.empty, .int .i64 0, .int .i64 0, .int .i64 0, .slice none 0 0] 54)) := Kp.alloc No _ _
  have hc := tplace_any (h.no hka) s
  rw [decide_eq_true (show fNm T.os s < T.os.length by rw [hi]; exact hil), h.ok.ris.same (by rw [hi]; exact hil), hi] at hc
  have HT := hide h
  have HO := hide ho
  have HC := hide hc
  have HK := hide hka
  have hb := Bx.new w 54 obZ
  have HB := hide hb
  clear h ho hc hka hb hi
  go_enter Try.func17, Try.ntmps17
  go_wp2_with fail
  refine HC.out.mono ?_
  rintro e w0 ⟨rfl, hk0⟩
  have HK0 := hide hk0
  clear hk0
  go_wp2_with fail
  refine (tat_yes ((HT.out.no HK.out).no HK0.out) HO.out).mono ?_
  rintro e w1 ⟨A1, n1, c1, rfl, hpl, hk1⟩
  have hb1 := (HB.out.no HK0.out).no hk1
  obtain ⟨y0, y1, y2, y3, y4, y5⟩ := boxZ_at hb1
  obtain ⟨f0, f1, f2, f3, f4, f5⟩ := box_fz hb1
  have HPL := hide hpl
  have HK1 := hide hk1
  have HB1 := hide hb1
  clear hpl hk1 hb1
  go_wp2_with fail
  have k9 := kp6 (S := fun q => q = w.heap.size) w1 w.heap.size (.int .u32 (o.num : Int)) (.string (strOf o.nm)) (.int .i64 o.ln) (.int .i64 o.ct) (.int .i64 o.pc) (.slice A1 n1 c1) rfl
  have b9 := HB1.out.six (.int .u32 (o.num : Int)) (.string (strOf o.nm)) (.int .i64 o.ln) (.int .i64 o.ct) (.int .i64 o.pc) (.slice A1 n1 c1)
  generalize ((((((w1.setCell ⟨w.heap.size, 0, none⟩ (.int .u32 (o.num : Int))).setCell ⟨w.heap.size, 1, none⟩ (.string (strOf o.nm))).setCell ⟨w.heap.size, 2, none⟩ (.int .i64 o.ln)).setCell ⟨w.heap.size, 3, none⟩ (.int .i64 o.ct)).setCell ⟨w.heap.size, 4, none⟩ (.int .i64 o.pc)).setCell ⟨w.heap.size, 5, none⟩ (.slice A1 n1 c1)) = W at k9 b9 ⊢
  obtain ⟨r0, r1, r2, r3, r4, r5⟩ := Bx.at_ (o := o) (v := .slice A1 n1 c1) b9
  simp only [Nat.zero_add] at r1 r2 r3 r4 r5
  refine bodyPost_ret (v := .tuple #[obV o (.slice A1 n1 c1), .bool true]) (by simp [results, Try.results17, go_sem, r0, r1, r2, r3, r4, r5]) rfl ⟨A1, n1, c1, rfl, ?_, ?_⟩
  · exact (HPL.out.box HB1.out k9).mono fun k hk hf => by have := (HK.out.trans' HK0.out).size; omega
  · exact ((HK.out.trans' HK0.out).trans' HK1.out).trans (k9.mono fun q hq => .inr (by omega))
theorem tfind_no {s : List UInt8} (h : TbAt w F g T) (hi : ¬ fNm T.os s < T.os.length) : Calls Try.prog 17 #[.pointer (some ⟨g, 0, none⟩), .string (strOf s)] w (AtNo w) := by
  have hka : Kp No w (w.alloc (.cells #[.int .u32 0, .string ByteArray.empty, .int .i64 0, .int .i64 0, .int .i64 0, .slice none 0 0] 54)) := Kp.alloc No _ _
  have hc := tplace_any (h.no hka) s
  rw [decide_eq_false hi] at hc
  have HC := hide hc
  have HK := hide hka
  have hb := Bx.new w 54 obZ
  have HB := hide hb
  clear h hc hka hb hi
  go_enter Try.func17, Try.ntmps17
  go_wp2_with fail
  refine HC.out.mono ?_
  rintro e w0 ⟨rfl, hk0⟩
  have hb1 := HB.out.no hk0
  obtain ⟨y0, y1, y2, y3, y4, y5⟩ := boxZ_at hb1
  obtain ⟨f0, f1, f2, f3, f4, f5⟩ := box_fz hb1
  have HK0 := hide hk0
  have HB1 := hide hb1
  clear hk0 hb1
  go_wp2_with fail
  have k9 := kp6 (S := fun q => q = w.heap.size) w0 w.heap.size (.int .u32 0) (.string { data := #[] }) (.int .i64 0) (.int .i64 0) (.int .i64 0) (.slice none 0 0) rfl
  have b9 := HB1.out.six (.int .u32 0) (.string { data := #[] }) (.int .i64 0) (.int .i64 0) (.int .i64 0) (.slice none 0 0)
  generalize ((((((w0.setCell ⟨w.heap.size, 0, none⟩ (.int .u32 0)).setCell ⟨w.heap.size, 1, none⟩ (.string { data := #[] })).setCell ⟨w.heap.size, 2, none⟩ (.int .i64 0)).setCell ⟨w.heap.size, 3, none⟩ (.int .i64 0)).setCell ⟨w.heap.size, 4, none⟩ (.int .i64 0)).setCell ⟨w.heap.size, 5, none⟩ (.slice none 0 0)) = W at k9 b9 ⊢
  obtain ⟨r0, r1, r2, r3, r4, r5⟩ := boxZ_at b9
  exact bodyPost_ret (v := .tuple #[obZV, .bool false]) (by simp [results, Try.results17, go_sem, r0, r1, r2, r3, r4, r5]) rfl ⟨rfl, (HK.out.trans' HK0.out).trans (k9.mono fun q hq => .inr (by omega))⟩
end
end Go.Proofs.Ythicpblgonigcaa
