/- The calls of package pack's Writer, each as a contract over memory, and the plain functions of bytes that they come to; bytes.Clone, the Writer's Bytes, and the document's own answers for package pack, each as a contract over memory; CRC-32C in plain words: the register's step on any number, that it keeps xor, that bytes are fed as one great number, and that bits turned within 32 side by side change what comes out. No program is spoken of. -/
import Derived.Test.YtnfcfdhlmeimhaaGreatProg
import Derived.Test.YtnfcfdhlmeimhaaGreatTwaa
import Derived.WalkLawsBesides
import Derived.WalkSpells
import Derived.KernelRfl
namespace Go.Proofs.YtnfcfdhlmeimhaaGreat
open Go.RowKit
set_option linter.unusedVariables false
set_option maxRecDepth 20000

/-- The lowest k bytes of n, the least first. -/
def numB (n k : Nat) : List UInt8 := (List.range k).map fun i => UInt8.ofNat (n / 2 ^ (8 * i))
theorem numB_succ (n k : Nat) : numB n (k + 1) = numB n k ++ [UInt8.ofNat (n / 2 ^ (8 * k))] := by simp [numB, List.range_succ]
theorem numB_length (n k : Nat) : (numB n k).length = k := by simp [numB]
theorem bv_ofNat (m : Nat) : bv (UInt8.ofNat m) = .int .u8 ((m : Int) % 256) := by
  unfold bv
  rw [UInt8.toNat_ofNat']
  congr 1
/-- At block g lies a Writer that holds bs; it and its row lie in F. -/
def WrAt (w : World) (F : Nat → Prop) (g : Nat) (bs : List UInt8) : Prop :=
  ∃ v, w.heap[g]? = some (.cells #[v] 134 (0, 0)) ∧ Own w 0 5 v bs ∧ F g ∧ ∀ k, v.ownBlock = some k → F k

theorem own_ne {w : World} {base : Nat} {v : Value} {bs : List UInt8} {g : Nat} {t : TypeId} {cs : Array Value} (h : Own w base 5 v bs) (hg : w.heap[g]? = some (.cells cs t (0, 0))) (ht : t ≠ 5) : v.ownBlock ≠ some g := by
  rcases h.2 with ⟨rfl, _⟩ | ⟨g', cap, cur, rfl, _, hh, _⟩
  · simp [Value.ownBlock]
  · intro he
    simp only [Value.ownBlock, Option.some.injEq] at he
    subst he
    rw [hh] at hg
    simp only [Option.some.injEq, Obj.cells.injEq] at hg
    exact ht hg.2.1.symm

section
variable {w w1 : World} {F S : Nat → Prop} {g : Nat} {bs : List UInt8}
theorem WrAt.mono {T : Nat → Prop} (h : WrAt w F g bs) (hF : ∀ k, F k → T k) : WrAt w T g bs := by
  obtain ⟨v, h1, h2, h3, h4⟩ := h
  exact ⟨v, h1, h2, hF _ h3, fun k hk => hF _ (h4 k hk)⟩
theorem WrAt.lt (h : WrAt w F g bs) : WrAt w (fun k => F k ∧ k < w.heap.size) g bs := by
  obtain ⟨v, h1, h2, h3, h4⟩ := h
  exact ⟨v, h1, h2, ⟨h3, (Array.getElem?_eq_some_iff.1 h1).1⟩, fun k hk => ⟨h4 k hk, h2.lt k hk⟩⟩
theorem WrAt.keep (h : WrAt w F g bs) (hk : Kp S w w1) (hS : ∀ k, k < w.heap.size → F k → ¬ S k) : WrAt w1 F g bs := by
  obtain ⟨v, h1, h2, h3, h4⟩ := h.lt
  exact ⟨v, (hk.block g h3.2 (hS g h3.2 h3.1)).trans h1, h2.keep hk fun k hk => hS k (h4 k hk).2 (h4 k hk).1, h3.1, fun k hk => (h4 k hk).1⟩
theorem WrAt.drew (h : WrAt w F g bs) : WrAt w.drew F g bs := h
theorem WrAt.new (w : World) : WrAt (w.alloc (.cells #[.slice none 0 0] 134)) (fun k => k = w.heap.size) w.heap.size [] :=
  ⟨_, heap_alloc_new w _, Own.nil _ _ _, rfl, fun k hk => by simp [Value.ownBlock] at hk⟩
end

/-- What a call on a Writer comes to: the pointer is returned, cs is appended, all else is as it was. -/
def WrPost (w : World) (F : Nat → Prop) (g : Nat) (bs : List UInt8) (e : Ending) (w1 : World) : Prop :=
  e = .returned (.pointer (some ⟨g, 0, none⟩)) ∧ WrAt w1 (Up F w) g bs ∧ Kp F w w1

theorem raw_any {w : World} {F : Nat → Prop} {g : Nat} {bs cs : List UInt8} {u : Value} (h : WrAt w F g bs) (hu : Bts w u cs) (hl : bs.length + cs.length ≤ 1000000000) :
    Calls Tryz.prog 63 #[.pointer (some ⟨g, 0, none⟩), u] w (WrPost w F g (bs ++ cs)) := by
  obtain ⟨i0, hi0, hz0, hz1, hz2⟩ := byte_parts
  obtain ⟨v, h1, h2, h3, h4⟩ := h
  obtain ⟨A, n, c, rfl⟩ := h2.form
  obtain ⟨B, m, d, rfl⟩ := hu.form
  have hne := own_ne h2 h1 (by decide)
  have hc : w.cell? ⟨g, 0, none⟩ = some (.slice A n c) := by rw [cell_of_row w g 0 _ _ _ h1]; rfl
  go_enter Tryz.func63, Tryz.ntmps63
  go_wp2_with (first
    | (at_builtin
       refine wpList_app rfl (.tmp 11) (.tmp 12) _ rfl i0 Tryz.underlying54 hi0 hz0 hz1 hz2 rfl h2 rfl hu hl (Nat.zero_le _) ?_
       intro A1 n1 c1 w1 ha
       have hg1 : w1.heap[g]? = some (.cells #[.slice A n c] 134 (0, 0)) := (ha.kp.block g (Array.getElem?_eq_some_iff.1 h1).1 hne).trans h1
       have hc1 : w1.cell? ⟨g, 0, none⟩ = some (.slice A n c) := by rw [cell_of_row w1 g 0 _ _ _ hg1]; rfl
       have hf1 : w1.frozen? ⟨g, 0, none⟩ = false := frozen_of_row w1 g 0 _ _ hg1
       have HG := hide hg1
       clear hg1))
  go_ret
  have hg1 := HG.out
  refine ⟨rfl, ⟨_, heap_setCell_same w1 g 0 _ 134 _ hg1, ?_, .inl h3, fun k hk => ?_⟩, ?_⟩
  · refine ha.own.keep (Kp.setCell (p := ⟨g, 0, none⟩) (S := fun k => k = g) rfl _) fun k hk e => ?_
    subst e
    exact own_ne ha.own hg1 (by decide) hk
  · rcases ha.at_ with e | e
    · exact .inl (h4 k (e ▸ hk))
    · refine .inr ?_
      rw [hk] at e
      injection e with e
      omega
  · exact (ha.kp.mono h4).trans (Kp.setCell (.inl h3) _)

theorem WrPost.trans {w w1 : World} {F : Nat → Prop} {g : Nat} {bs : List UInt8} {e : Ending} {w2 : World} (hk : Kp F w w1) (h : WrPost w1 (Up F w) g bs e w2) : WrPost w F g bs e w2 :=
  ⟨h.1, h.2.1.mono fun _ hk' => hk'.two hk.size, hk.trans h.2.2⟩

/-- How many bytes Num writes. -/
def IsK (sz : Int) (K : Nat) : Prop := K ≤ 8 ∧ ((sz < 0 ∧ K = 0) ∨ (8 < sz ∧ K = 8) ∨ sz = K)

set_option maxHeartbeats 1000000 in
theorem num_any {w : World} {F : Nat → Prop} {g : Nat} {bs : List UInt8} (n : Nat) (sz : Int) (K : Nat) (hn : n < 18446744073709551616) (hK : IsK sz K) (h : WrAt w F g bs) (hl : bs.length ≤ 900000000) :
    Calls Tryz.prog 61 #[.pointer (some ⟨g, 0, none⟩), .int .u64 n, .int .i64 sz] w (WrPost w F g (bs ++ numB n K)) := by
  obtain ⟨i0, hi0, hz0, hz1, hz2⟩ := byte_parts
  have h8 := hK.1
  have hcase : (sz < 0 ∧ K ≤ 0) ∨ (8 < sz ∧ 8 ≤ K) ∨ sz = K := by have := hK.2; omega
  clear hK
  rcases hcase with ⟨hs, hK⟩ | ⟨hs, hK⟩ | rfl
  all_goals
    go_enter Tryz.func61, Tryz.ntmps61
    go_wp2
    go_loopw [7, 12] (fun b i wr => ∃ k A m c, k ≤ K ∧ i = .int .i64 ((k : Nat) : Int) ∧ b = .slice A m c ∧ Own wr w.heap.size 5 (.slice A m c) (numB n k) ∧ Kp No w wr) (fun _ i _ => 8 - (intOf i).toNat)
    case atStart => exact ⟨0, none, 0, 0, Nat.zero_le _, rfl, rfl, Own.nil _ _ _, Kp.refl _ _⟩
    case round =>
      obtain ⟨k, A, m, c, hk, rfl, rfl, hb, hkp⟩ := hrel
      by_cases hlt : k < K
      · first
        | (exfalso; omega)
        | (go_wp2_with (first
            | (at_builtin
               refine wpList_app rfl (.tmp 15) (.tmp 21) _ rfl i0 Tryz.underlying54 hi0 hz0 hz1 hz2 rfl (hb.alloc _) rfl (bts_new _ (UInt8.ofNat (n / 2 ^ (8 * k))) _ ?hv) ?hl ?hs ?_
               case hv => rw [bv_ofNat]; simp
               case hl => simp [numB_length]; omega
               case hs => have := hkp.size; simp; omega
               intro A1 n1 c1 w1 ha))
           go_round
           case rel => exact ⟨k + 1, A1, n1, c1, by omega, by go_num, rfl, by rw [numB_succ]; exact ha.own, ha.keeps (hb.alloc _) (hkp.trans (Kp.alloc _ _ _))⟩
           case measure => simp [intOf]; omega)
      · have hkK : k = K := by omega
        subst hkK
        go_wp2_with (go_at_call 63; refine (raw_any (bs := bs) (cs := numB n k) (F := Up F w) (g := g) ((h.keep hkp fun _ _ _ f => f).mono fun _ x => .inl x) hb.bts ?hlen).mono ?_; (case hlen => rw [numB_length]; omega); rintro e w2 hp; obtain rfl := hp.1)
        go_ret
        exact WrPost.trans (hkp.of_no F) hp

/-- A shard's bytes. -/
def shardB (o st sl gn : Nat) : List UInt8 := numB o 4 ++ numB st 2 ++ numB sl 2 ++ numB gn 4

theorem WrPost.again {w : World} {G : Nat → Prop} {g : Nat} {bs : List UInt8} {e : Ending} {w1 : World} (h : WrPost w G g bs e w1) (hG : ∀ k, w.heap.size ≤ k → G k) : WrAt w1 G g bs :=
  h.2.1.mono fun k hk => hk.elim id (hG k)

/-- The blocks that F names or that are younger than w, but for the one that is made next. -/
def Nx (F : Nat → Prop) (w : World) (k : Nat) : Prop := k ≠ w.heap.size ∧ Up F w k

set_option maxHeartbeats 1000000 in
theorem shard_any {w : World} {F : Nat → Prop} {g : Nat} {bs : List UInt8} (o st sl gn : Nat) (ho : o < 4294967296) (hst : st < 65536) (hsl : sl < 65536) (hgn : gn < 4294967296) (h : WrAt w F g bs) (hl : bs.length ≤ 800000000) :
    Calls Tryz.prog 62 #[.pointer (some ⟨g, 0, none⟩), .agg #[.int .u32 o, .int .u16 st, .int .u16 sl, .int .u32 gn]] w (WrPost w F g (bs ++ shardB o st sl gn)) := by
  have hG : ∀ k, w.heap.size + 1 ≤ k → Nx F w k := fun k hk => ⟨by omega, .inr (by omega)⟩
  have HG := hide hG
  clear hG
  have hW : ∀ ob : Obj, WrAt (w.alloc ob) (Nx F w) g bs := fun ob => (h.lt.keep (Kp.alloc No w ob) fun _ _ _ f => f).mono fun k hk => ⟨by omega, .inl hk.1⟩
  have HW := hide hW
  clear hW
  have cells : ∀ (W0 w1 : World) (j : Nat) (x : Value), Kp (Nx F w) W0 w1 → W0.cell? ⟨w.heap.size, j, none⟩ = some x → w1.cell? ⟨w.heap.size, j, none⟩ = some x :=
    fun W0 w1 j x hk hc => hk.cell hc fun hn => hn.1 rfl
  have CS := hide cells
  clear cells
  go_enter Tryz.func62, Tryz.ntmps62
  go_wp2_with fail
  refine (num_any (bs := bs) (F := Nx F w) (g := g) o 4 4 (by omega) ⟨by omega, by omega⟩ (HW.out _) (by omega)).mono ?_
  rintro e w1 hp
  obtain rfl := hp.1
  have c1 : w1.cell? ⟨w.heap.size, 1, none⟩ = some (.int .u16 st) := CS.out _ _ 1 _ hp.2.2 (by simp)
  have c2 : w1.cell? ⟨w.heap.size, 2, none⟩ = some (.int .u16 sl) := CS.out _ _ 2 _ hp.2.2 (by simp)
  have c3 : w1.cell? ⟨w.heap.size, 3, none⟩ = some (.int .u32 gn) := CS.out _ _ 3 _ hp.2.2 (by simp)
  have ha1 := hp.again (fun k hk => HG.out k (by simpa using hk))
  have z1 : w.heap.size + 1 ≤ w1.heap.size := by have := hp.2.2.size; simpa using this
  have k1 := hp.2.2
  clear hp
  go_wp2_with fail
  refine (num_any (bs := bs ++ numB o 4) (F := Nx F w) (g := g) st 2 2 (by omega) ⟨by omega, by omega⟩ ha1 (by rw [List.length_append, numB_length]; omega)).mono ?_
  rintro e w2 hp
  obtain rfl := hp.1
  have d2 : w2.cell? ⟨w.heap.size, 2, none⟩ = some (.int .u16 sl) := CS.out _ _ 2 _ hp.2.2 c2
  have d3 : w2.cell? ⟨w.heap.size, 3, none⟩ = some (.int .u32 gn) := CS.out _ _ 3 _ hp.2.2 c3
  have ha2 := hp.again (fun k hk => HG.out k (by omega))
  have z2 : w.heap.size + 1 ≤ w2.heap.size := by have := hp.2.2.size; omega
  have k2 := k1.trans' hp.2.2
  clear hp
  go_wp2_with fail
  refine (num_any (bs := bs ++ numB o 4 ++ numB st 2) (F := Nx F w) (g := g) sl 2 2 (by omega) ⟨by omega, by omega⟩ ha2 (by simp only [List.length_append, numB_length]; omega)).mono ?_
  rintro e w3 hp
  obtain rfl := hp.1
  have e3 : w3.cell? ⟨w.heap.size, 3, none⟩ = some (.int .u32 gn) := CS.out _ _ 3 _ hp.2.2 d3
  have ha3 := hp.again (fun k hk => HG.out k (by omega))
  have z3 : w.heap.size + 1 ≤ w3.heap.size := by have := hp.2.2.size; omega
  have k3 := k2.trans' hp.2.2
  clear hp
  go_wp2_with fail
  refine (num_any (bs := bs ++ numB o 4 ++ numB st 2 ++ numB sl 2) (F := Nx F w) (g := g) gn 4 4 (by omega) ⟨by omega, by omega⟩ ha3 (by simp only [List.length_append, numB_length]; omega)).mono ?_
  rintro e w4 hp
  obtain rfl := hp.1
  have ha4 := hp.again (fun k hk => HG.out k (by omega))
  have k4 := k3.trans' hp.2.2
  clear hp
  go_wp2
  go_ret
  refine ⟨rfl, ?_, (Kp.alloc F w _).trans (k4.mono fun _ hk => hk.2)⟩
  have e : bs ++ shardB o st sl gn = bs ++ numB o 4 ++ numB st 2 ++ numB sl 2 ++ numB gn 4 := by simp [shardB, List.append_assoc]
  rw [e]
  exact ha4.mono fun _ hk => hk.2
end Go.Proofs.YtnfcfdhlmeimhaaGreat
namespace Go.Proofs.YtnfcfdhlmeimhaaGreat
open Go.RowKit
set_option linter.unusedVariables false
set_option maxRecDepth 20000

/-- The Writer's Bytes: a copy. -/
theorem bytes_any {w : World} {F : Nat → Prop} {g : Nat} {bs : List UInt8} (h : WrAt w F g bs) (hl : bs.length ≤ 900000000) : Calls Tryz.prog 64 #[.pointer (some ⟨g, 0, none⟩)] w (OwnPost w bs) := by
  obtain ⟨v, h1, h2, h3, h4⟩ := h
  obtain ⟨A, n, c, rfl⟩ := h2.form
  have hc : w.cell? ⟨g, 0, none⟩ = some (.slice A n c) := by rw [cell_of_row w g 0 _ _ _ h1]; rfl
  go_enter Tryz.func64, Tryz.ntmps64
  go_wp2_with (go_at_call 100; refine (clone_any h2.bts hl).mono ?_; rintro e w1 ⟨A1, n1, c1, rfl, ho, hk⟩)
  go_ret
  exact ⟨A1, n1, c1, rfl, ho, hk⟩

theorem div_step (n k : Nat) : n / 2 ^ (8 * k) / 256 = n / 2 ^ (8 * (k + 1)) := by
  rw [Nat.div_div_eq_div_mul]
  congr 1
  rw [show 8 * (k + 1) = 8 * k + 8 by omega, Nat.pow_add]

set_option maxHeartbeats 1000000 in
/-- The document's number: so many bytes of n. -/
theorem rnum_any {w : World} (n : Nat) (sz : Int) (K : Nat) (hn : n < 18446744073709551616) (hK : IsK sz K) : Calls Tryz.prog 40 #[.int .u64 n, .int .i64 sz] w (OwnPost w (numB n K)) := by
  obtain ⟨i0, hi0, hz0, hz1, hz2⟩ := byte_parts
  have h8 := hK.1
  have hcase : (sz < 0 ∧ K ≤ 0) ∨ (8 < sz ∧ 8 ≤ K) ∨ (0 ≤ sz ∧ sz ≤ 8 ∧ sz ≤ K ∧ K ≤ sz) := by have := hK.2; omega
  clear hK
  go_enter Tryz.func40, Tryz.ntmps40
  go_wp2
  go_loopw [0, 5, 6] (fun m b i wr => ∃ k A l c q, k ≤ K ∧ i = .int .i64 ((k : Nat) : Int) ∧ m = .int .u64 ((q : Nat) : Int) ∧ q < 18446744073709551616 ∧ Hid (q = n / 2 ^ (8 * k)) ∧ b = .slice A l c ∧ Own wr w.heap.size 5 (.slice A l c) (numB n k) ∧ Kp No w wr) (fun _ _ i _ => 8 - (intOf i).toNat)
  case atStart => exact ⟨0, none, 0, 0, n, Nat.zero_le _, rfl, rfl, hn, by show n = n / 2 ^ 0; simp, rfl, Own.nil _ _ _, Kp.refl _ _⟩
  case round =>
    obtain ⟨k, A, l, c, q, hk, rfl, rfl, hq, HQ, rfl, hb, hkp⟩ := hrel
    by_cases hlt : k < K
    · have ht : (k : Int) < sz := by omega
      have ht8 : (k : Int) < 8 := by omega
      clear hcase
      go_wp2_with (first
        | (at_builtin
           refine wpList_app rfl (.tmp 16) (.tmp 20) _ rfl i0 Tryz.underlying54 hi0 hz0 hz1 hz2 rfl (hb.alloc _) rfl (bts_new _ (UInt8.ofNat (n / 2 ^ (8 * k))) _ ?hv) ?hl ?hs ?_
           case hv => rw [bv_ofNat, ← HQ.out]
           case hl => simp [numB_length]; omega
           case hs => have := hkp.size; simp; omega
           intro A1 n1 c1 w1 ha))
      go_round
      case rel => exact ⟨k + 1, A1, n1, c1, q / 256, by omega, by go_num, by go_num, by omega, by show q / 256 = _; rw [HQ.out, div_step], rfl, by rw [numB_succ]; exact ha.own, ha.keeps (hb.alloc _) (hkp.trans (Kp.alloc _ _ _))⟩
      case measure => simp [intOf]; omega
    · have hkK : k = K := by omega
      subst hkK
      by_cases ht : (k : Int) < sz
      · have ht8 : ¬ (k : Int) < 8 := by omega
        clear hcase
        go_wp2
        go_ret
        exact ⟨A, l, c, rfl, hb, hkp⟩
      · clear hcase
        go_wp2
        go_ret
        exact ⟨A, l, c, rfl, hb, hkp⟩
end Go.Proofs.YtnfcfdhlmeimhaaGreat
namespace Go.Proofs.YtnfcfdhlmeimhaaGreat
set_option linter.unusedVariables false
set_option maxRecDepth 20000
set_option linter.unusedSimpArgs false

/-- One bit leaves the register. -/
def cb (c : Nat) : Nat := if c % 2 = 1 then c / 2 ^^^ 0x82f63b78 else c / 2
/-- So many bits leave it. -/
def cn : Nat → Nat → Nat
  | 0, c => c
  | k + 1, c => cn k (cb c)
/-- One byte is fed. -/
def cby (c b : Nat) : Nat := cn 8 (c ^^^ b)
/-- Bytes are fed. -/
def cbs (c : Nat) (bs : List UInt8) : Nat := bs.foldl (fun c b => cby c b.toNat) c
/-- All ones. -/
def c1s : Nat := 4294967295
/-- The sum of bytes. -/
def crc (bs : List UInt8) : Nat := c1s - cbs c1s bs
theorem cn_add (k l c : Nat) : cn (k + l) c = cn l (cn k c) := by
  induction k generalizing c with
  | zero => rw [Nat.zero_add]; rfl
  | succ k ih => rw [Nat.succ_add]; exact ih _
theorem cb_lt {c : Nat} (h : c < 2 ^ 32) : cb c < 2 ^ 32 := by
  unfold cb
  split
  · exact Nat.xor_lt_two_pow (by omega) (by decide)
  · omega
theorem cn_lt {c : Nat} (h : c < 2 ^ 32) (k : Nat) : cn k c < 2 ^ 32 := by
  induction k generalizing c with
  | zero => exact h
  | succ k ih => exact ih (cb_lt h)
theorem cby_lt {c b : Nat} (h : c < 2 ^ 32) (hb : b < 256) : cby c b < 2 ^ 32 := cn_lt (Nat.xor_lt_two_pow h (by omega)) 8
theorem cbs_lt {c : Nat} (h : c < 2 ^ 32) (bs : List UInt8) : cbs c bs < 2 ^ 32 := by
  induction bs generalizing c with
  | nil => exact h
  | cons b t ih => exact ih (cby_lt h (by have := b.toNat_lt; omega))
theorem cbs_app (c : Nat) (a b : List UInt8) : cbs c (a ++ b) = cbs (cbs c a) b := List.foldl_append
theorem c1s_lt : c1s < 2 ^ 32 := by decide
/-- The complement. -/
theorem comp_xor {x : Nat} (h : x < 2 ^ 32) : c1s - x = x ^^^ c1s := by
  have e : c1s = 2 ^ 32 - 1 := rfl
  apply Nat.eq_of_testBit_eq
  intro i
  rw [Nat.testBit_xor, e, show 2 ^ 32 - 1 - x = 2 ^ 32 - (x + 1) by omega, Nat.testBit_two_pow_sub_succ h, Nat.testBit_two_pow_sub_one]
  by_cases g : i < 32
  · simp [g]
  · have : x.testBit i = false := Nat.testBit_lt_two_pow (Nat.lt_of_lt_of_le h (Nat.pow_le_pow_right (by omega) (by omega)))
    simp [g, this]
theorem crc_lt (bs : List UInt8) : crc bs < 2 ^ 32 := by unfold crc c1s; omega
/-- Go. -/
theorem crc_go (a b : List UInt8) : c1s - cbs (c1s - crc a) b = crc (a ++ b) := by
  have h := cbs_lt c1s_lt a
  have e : c1s - crc a = cbs c1s a := by unfold crc; have : cbs c1s a ≤ c1s := by unfold c1s; unfold c1s at h; omega
                                         omega
  rw [e]
  unfold crc
  rw [cbs_app]
end Go.Proofs.YtnfcfdhlmeimhaaGreat
