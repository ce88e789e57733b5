/- A disk of cells in plain words: what a cell reads as, what Write, Sync, Crash, Spoil and Wipe come to. No program is spoken of; A vault in plain words: what stands in a cell, which cell is free, what Open, Begin, Put, Get and Drop come to, and the list of names in order. No program is spoken of. -/
import Derived.WalkKit
import Derived.Test.YtnfcfdhlmeimhaaGreatSpad
import Derived.Test.YtnfcfdhlmeimhaaGreatSpae
namespace Go.Proofs.YtnfcfdhlmeimhaaGreat
set_option linter.unusedVariables false
set_option linter.unusedSimpArgs false
section
variable {α β:Type}
/-- Things are put into places, one behind the other. -/
def doG (cs:List α) (ls:List (Nat × α)):List α:=ls.foldl (fun c p=>c.set p.1 p.2) cs
/-- The second halves are turned. -/
def mp (f:α→β) (ls:List (Nat × α)):List (Nat × β):=ls.map fun p=>(p.1,f p.2)
theorem doG_snoc (cs:List α) (ls:List (Nat × α)) (p:Nat × α):doG cs (ls ++ [p])=(doG cs ls).set p.1 p.2:=by simp [doG]
theorem doG_cons (cs:List α) (p:Nat × α) (ls:List (Nat × α)):doG cs (p :: ls)=doG (cs.set p.1 p.2) ls:=rfl
theorem doG_len (cs:List α) (ls:List (Nat × α)):(doG cs ls).length=cs.length:=by
 induction ls generalizing cs with
 | nil=>rfl
 | cons p t ih=>rw [doG_cons,ih,List.length_set]
theorem mp_len (f:α→β) (ls:List (Nat × α)):(mp f ls).length=ls.length:=by simp [mp]
theorem mp_snoc (f:α→β) (ls:List (Nat × α)) (p:Nat × α):mp f (ls ++ [p])=mp f ls ++ [(p.1,f p.2)]:=by simp [mp]
theorem mp_take (f:α→β) (ls:List (Nat × α)) (k:Nat):mp f (ls.take k)=(mp f ls).take k:=by simp [mp]
theorem mp_get (f:α→β) (ls:List (Nat × α)) (k:Nat):(mp f ls)[k]?=ls[k]?.map fun p=>(p.1,f p.2):=by simp [mp]
theorem doG_map (f:α→β) (cs:List α) (ls:List (Nat × α)):(doG cs ls).map f=doG (cs.map f) (mp f ls):=by
 induction ls generalizing cs with
 | nil=>rfl
 | cons p t ih =>
  show (doG (cs.set p.1 p.2) t).map f=doG ((cs.map f).set p.1 (f p.2)) (mp f t)
  rw [ih,List.map_set]
theorem mem_set {cs:List α} {i:Nat} {x y:α} (h:y ∈ cs.set i x):y ∈ cs∨y=x:=List.mem_or_eq_of_mem_set h
theorem doG_mem {cs:List α} {ls:List (Nat × α)} {x:α} (h:x ∈ doG cs ls):x ∈ cs∨∃ p ∈ ls,p.2=x:=by
 induction ls generalizing cs with
 | nil=>exact .inl h
 | cons p t ih =>
  rcases ih (cs:=cs.set p.1 p.2) h with h | ⟨q,hq,e⟩
  ·rcases mem_set h with h | h
   ·exact .inl h
   ·exact .inr ⟨p,by simp,h.symm⟩
  ·exact .inr ⟨q,by simp [hq],e⟩
theorem take_more {ls:List α} {k:Nat} {p:α} (h:ls[k]?=some p):ls.take (k+1)=ls.take k ++ [p]:=by
 rw [List.take_add_one,h]; rfl
/-- The last one put to a place, or else b. -/
def rdL (l:List (Nat × α)) (c:Nat) (b:α):α:=l.foldl (fun b p=>if p.1=c then p.2 else b) b
theorem rdL_snoc (l:List (Nat × α)) (p:Nat × α) (c:Nat) (b:α):rdL (l ++ [p]) c b=if p.1=c then p.2 else rdL l c b:=by simp [rdL]
theorem rdL_next {l:List (Nat × α)} {k:Nat} {p:Nat × α} (h:l[k]?=some p) (c:Nat) (b:α):rdL (l.take (k+1)) c b=if p.1=c then p.2 else rdL (l.take k) c b:=by rw [take_more h,rdL_snoc]
theorem rdL_mem (l:List (Nat × α)) (c:Nat) (b:α):rdL l c b=b∨∃ p ∈ l,p.2=rdL l c b:=by
 induction l generalizing b with
 | nil=>exact .inl rfl
 | cons p t ih =>
  show rdL t c (if p.1=c then p.2 else b)=b∨∃ q ∈ p :: t,q.2=rdL t c (if p.1=c then p.2 else b)
  rcases ih (if p.1=c then p.2 else b) with h | ⟨q,hq,e⟩
  ·by_cases e:p.1=c
   ·rw [if_pos e] at h ⊢
    exact .inr ⟨p,by simp,h.symm⟩
   ·rw [if_neg e] at h ⊢
    exact .inl h
  ·exact .inr ⟨q,by simp [hq],e⟩
end
/-- A disk: how many bytes a cell has at most, what its cells have without loose writes, the loose writes, and how many Syncs there were. -/
structure Dk where
 size:Nat
 cells:List (List UInt8)
 loose:List (Nat × List UInt8)
 syncs:Nat
/-- A number counts as nought below that, and as n above n. -/
def clm (z:Int) (n:Nat):Nat:=min z.toNat n
theorem clm_le (z:Int) (n:Nat):clm z n≤n:=Nat.min_le_right _ _
theorem clm_lo {z:Int} {n:Nat} (h:z≤0):clm z n=0:=by unfold clm; omega
theorem clm_hi {z:Int} {n:Nat} (h:(n:Int)≤z):clm z n=n:=by unfold clm; omega
theorem clm_in {z:Nat} {n:Nat} (h:z≤n):clm (z:Int) n=z:=by unfold clm; omega
/-- Is there such a cell? -/
def Dk.In (d:Dk) (z:Int):Prop:=0≤z∧z < d.cells.length
instance (d:Dk) (z:Int):Decidable (d.In z):=by unfold Dk.In; exact inferInstance
/-- What a cell has without loose writes. -/
def Dk.cell (d:Dk) (c:Nat):List UInt8:=d.cells.getD c []
/-- What a cell reads as. -/
def Dk.rd (d:Dk) (z:Int):List UInt8:=if d.In z then rdL d.loose z.toNat (d.cell z.toNat) else []
def Dk.new (n s:Nat):Dk:=⟨s,List.replicate n [],[],0⟩
def Dk.putE (d:Dk) (z:Int) (b:List UInt8):Nat:=if d.In z then (if d.size < b.length then 29 else 0) else 1
def Dk.put (d:Dk) (z:Int) (b:List UInt8):Dk:=if d.putE z b=0 then ⟨d.size,d.cells,d.loose ++ [(z.toNat,b)],d.syncs⟩ else d
/-- The first so many loose writes are done. -/
def Dk.don (d:Dk) (k:Nat):List (List UInt8):=doG d.cells (d.loose.take k)
def Dk.sync (d:Dk):Dk:=⟨d.size,d.don d.loose.length,[],d.syncs+1⟩
/-- The first n bytes of b, over what was there. -/
def tornB (b had:List UInt8) (n:Nat):List UInt8:=b.take n ++ had.drop n
def Dk.torn (d:Dk) (k:Nat) (y:Int):List (List UInt8) :=
 match d.loose[k]? with
 | none=>d.don k
 | some p=>(d.don k).set p.1 (tornB p.2 ((d.don k).getD p.1 []) (clm y p.2.length))
def Dk.crash (d:Dk) (z y:Int):Dk:=⟨d.size,d.torn (clm z d.loose.length) y,[],d.syncs⟩
def Dk.lost (d:Dk) (z:Int):Nat:=d.loose.length - clm z d.loose.length
def Dk.spoilE (d:Dk) (z a:Int):Nat:=if d.In z∧0≤a∧a < (d.cell z.toNat).length then 0 else 1
def Dk.spoil (d:Dk) (z a:Int) (x:UInt8):Dk :=
 if d.spoilE z a=0 then ⟨d.size,d.cells.set z.toNat ((d.cell z.toNat).set a.toNat ((d.cell z.toNat).getD a.toNat 0 ^^^ x)),d.loose,d.syncs⟩ else d
/-- A disk that there may be. -/
structure Dk.Ok (d:Dk):Prop where
 n0:0 < d.cells.length
 n1:d.cells.length≤1024
 s0:0 < d.size
 s1:d.size≤4096
 cl:∀ b ∈ d.cells,b.length≤d.size
 ll:∀ p ∈ d.loose,p.1 < d.cells.length∧p.2.length≤d.size
section
variable {d:Dk}
theorem getD_mem {b:List UInt8} {l:List (List UInt8)} {c:Nat} (h:b=l.getD c []):b ∈ l∨b=[]:=by
 rw [List.getD_eq_getElem?_getD] at h
 rcases e:l[c]? with _ | x
 ·rw [e] at h; exact .inr h
 ·rw [e] at h
  obtain rfl:b=x:=h
  exact .inl (List.mem_of_getElem? e)
theorem Dk.Ok.cell_le (h:d.Ok) (c:Nat):(d.cell c).length≤d.size:=by
 rcases getD_mem (b:=d.cell c) rfl with e | e
 ·exact h.cl _ e
 ·rw [e]; exact Nat.zero_le _
theorem Dk.new_ok {n s:Nat} (h0:1≤n) (h1:n≤1024) (h2:1≤s) (h3:s≤4096):(Dk.new n s).Ok :=
 ⟨by simp [Dk.new]; omega,by simp [Dk.new]; omega,by simp [Dk.new]; omega,by simp [Dk.new]; omega,fun b hb=>by
  have:=List.eq_of_mem_replicate hb
  rw [this]; exact Nat.zero_le _,fun p hp=>by simp [Dk.new] at hp⟩
theorem Dk.putE_ok {z:Int} {b:List UInt8} (h:d.putE z b=0):d.In z∧b.length≤d.size:=by
 unfold Dk.putE at h
 split at h
 ·rename_i hz
  split at h
  ·omega
  ·exact ⟨hz,by omega⟩
 ·omega
theorem Dk.Ok.put (h:d.Ok) (z:Int) (b:List UInt8):(d.put z b).Ok:=by
 unfold Dk.put
 by_cases e:d.putE z b=0
 ·rw [if_pos e]
  obtain ⟨hz,hb⟩:=Dk.putE_ok e
  refine ⟨h.n0,h.n1,h.s0,h.s1,h.cl,fun p hp=>?_⟩
  rcases List.mem_append.1 hp with hp | hp
  ·exact h.ll p hp
  ·rw [List.mem_singleton] at hp
   subst hp
   refine ⟨?_,hb⟩
   have h1:=hz.1
   have h2:=hz.2
   show z.toNat < d.cells.length
   omega
 ·rw [if_neg e]; exact h
theorem Dk.don_len (d:Dk) (k:Nat):(d.don k).length=d.cells.length:=doG_len _ _
theorem Dk.Ok.don (h:d.Ok) (k:Nat):∀ b ∈ d.don k,b.length≤d.size:=fun b hb=>by
 rcases doG_mem hb with hb | ⟨p,hp,rfl⟩
 ·exact h.cl b hb
 ·exact (h.ll p (List.mem_of_mem_take hp)).2
theorem Dk.Ok.sync (h:d.Ok):d.sync.Ok :=
 ⟨by show 0 < (d.don _).length; rw [Dk.don_len]; exact h.n0,by show (d.don _).length≤1024; rw [Dk.don_len]; exact h.n1,h.s0,h.s1,h.don _,fun p hp=>by simp [Dk.sync] at hp⟩
theorem Dk.torn_len (d:Dk) (k:Nat) (y:Int):(d.torn k y).length=d.cells.length:=by
 unfold Dk.torn
 split
 ·exact Dk.don_len _ _
 ·rw [List.length_set,Dk.don_len]
theorem tornB_len {b had:List UInt8} {n s:Nat} (h1:b.length≤s) (h2:had.length≤s) (hn:n≤b.length):(tornB b had n).length≤s:=by
 unfold tornB
 rw [List.length_append,List.length_take,List.length_drop]
 omega
theorem Dk.Ok.torn (h:d.Ok) (k:Nat) (y:Int):∀ b ∈ d.torn k y,b.length≤d.size:=fun b hb=>by
 unfold Dk.torn at hb
 split at hb
 ·exact h.don k b hb
 ·rename_i p hp
  rcases mem_set hb with hb | rfl
  ·exact h.don k b hb
  ·refine tornB_len (h.ll p (List.mem_of_getElem? hp)).2 ?_ (clm_le _ _)
   rcases getD_mem (b:=(d.don k).getD p.1 []) rfl with e | e
   ·exact h.don k _ e
   ·rw [e]; exact Nat.zero_le _
theorem Dk.Ok.crash (h:d.Ok) (z y:Int):(d.crash z y).Ok :=
 ⟨by show 0 < (d.torn _ _).length; rw [Dk.torn_len]; exact h.n0,by show (d.torn _ _).length≤1024; rw [Dk.torn_len]; exact h.n1,h.s0,h.s1,h.torn _ _,fun p hp=>by simp [Dk.crash] at hp⟩
theorem Dk.Ok.setc (h:d.Ok) (c:Nat) {b:List UInt8} (hb:b.length≤d.size) (n:Nat):(Dk.mk d.size (d.cells.set c b) d.loose n).Ok :=
 ⟨by simp only [List.length_set]; exact h.n0,by simp only [List.length_set]; exact h.n1,h.s0,h.s1,fun x hx=>by
  rcases mem_set hx with hx | rfl
  ·exact h.cl x hx
  ·exact hb,fun p hp=>by simp only [List.length_set]; exact h.ll p hp⟩
theorem Dk.Ok.rd_le (h:d.Ok) (z:Int):(d.rd z).length≤d.size:=by
 unfold Dk.rd
 split
 ·rcases rdL_mem d.loose z.toNat (d.cell z.toNat) with e | ⟨p,hp,e⟩
  ·rw [e]; exact h.cell_le _
  ·rw [← e]; exact (h.ll p hp).2
 ·exact Nat.zero_le _
end
end Go.Proofs.YtnfcfdhlmeimhaaGreat
namespace Go.Proofs.YtnfcfdhlmeimhaaGreat
set_option linter.unusedVariables false
set_option linter.unusedSimpArgs false
set_option maxRecDepth 20000
/-- What is wrong with a cell; what name stands in it; its data. -/
def rdE (bs:List UInt8):Nat:=if opE bs≠0 then opE bs else if opK bs=1∧12≤(opL bs).length∧bs.length=12+(opL bs).length then 0 else 21
def rdS (bs:List UInt8):Nat:=if rdE bs=0 then nmO (opL bs) else 0
def rdB (bs:List UInt8):List UInt8:=if rdE bs=0 then (opL bs).drop 12 else []
theorem opE_cases (bs:List UInt8):opE bs=0∨opE bs=21∨opE bs=22:=by
 unfold opE
 split
 ·exact .inr (.inl rfl)
 ·split
  ·exact .inr (.inr rfl)
  ·exact .inl rfl
theorem opN_eq {bs:List UInt8} (h:opE bs=0):opN bs=12+(opL bs).length∧(opL bs).length≤bs.length:=by
 unfold opN opL
 rw [if_pos h,if_pos h]
 unfold opE at h
 split at h
 ·omega
 ·rename_i hn
  have hc:¬ (bs.length < 12)∧¬ (bs.length - 12 < ctO bs):=⟨fun e=>hn (.inl e),fun e=>hn (.inr (.inr (.inr e)))⟩
  unfold ldO
  rw [List.length_take,List.length_drop]
  omega
theorem rdS_lt (bs:List UInt8):rdS bs < N96:=by
 unfold rdS
 split
 ·exact nmO_lt _
 ·unfold N96; omega
/-- A shard's frame. -/
def frV (s:Nat) (b:List UInt8):List UInt8:=frm 1 (shB s ++ b)
theorem frV_len (s:Nat) (b:List UInt8):(frV s b).length=24+b.length:=by unfold frV; rw [frm_len,List.length_append,shB_len]; omega
/-- Is a name known? Where does it stand among what is known? In which cell? Is a cell used? Which is the first that isn't? -/
def kn (L:List (Nat × Nat)) (s:Nat):Bool:=L.any fun p=>p.2 == s
def ixl (L:List (Nat × Nat)) (s:Nat):Nat:=L.findIdx fun p=>p.2 == s
def cel (L:List (Nat × Nat)) (s:Nat):Nat:=(L.getD (ixl L s) (0,0)).1
def usd (L:List (Nat × Nat)) (c:Nat):Bool:=L.any fun p=>p.1 == c
def fre (n:Nat) (L:List (Nat × Nat)):Nat:=(List.range n).findIdx fun c=>!usd L c
section
variable {L:List (Nat × Nat)} {s c n:Nat}
theorem kn_iff:kn L s=true ↔ ∃ p ∈ L,p.2=s:=by unfold kn; simp
theorem kn_ix:kn L s=true ↔ ixl L s < L.length:=by unfold kn ixl; rw [List.findIdx_lt_length]; simp
theorem kn_not (h:kn L s=false):∀ p ∈ L,p.2≠s:=fun p hp e=>by
 have:=kn_iff.2 ⟨p,hp,e⟩
 rw [h] at this
 cases this
theorem ix_get (h:kn L s=true):L[ixl L s]?=some (cel L s,s):=by
 have hl:=kn_ix.1 h
 have h2:(fun p:Nat × Nat=>p.2 == s) (L[ixl L s]'hl)=true:=List.findIdx_getElem (xs:=L) (p:=fun p:Nat × Nat=>p.2 == s) (w:=hl)
 have h3:L[ixl L s]?=some (L[ixl L s]'hl):=List.getElem?_eq_getElem hl
 have h4:cel L s=(L[ixl L s]'hl).1:=by
  unfold cel
  rw [List.getD_eq_getElem?_getD,h3]
  rfl
 rw [h3,h4]
 congr 1
 exact Prod.ext rfl (by simpa using h2)
theorem ix_before {j:Nat} {p:Nat × Nat} (h:j < ixl L s) (hp:L[j]?=some p):p.2≠s:=fun e=>by
 obtain ⟨hj,e2⟩:=List.getElem?_eq_some_iff.1 hp
 have:=List.not_of_lt_findIdx (xs:=L) (p:=fun p=>p.2 == s) h
 rw [e2] at this
 simp [e] at this
theorem cel_mem (h:kn L s=true):(cel L s,s) ∈ L:=List.mem_of_getElem? (ix_get h)
theorem kn_snoc (p:Nat × Nat):kn (L ++ [p]) s=(kn L s || p.2 == s):=by unfold kn; simp
theorem usd_iff:usd L c=true ↔ ∃ p ∈ L,p.1=c:=by unfold usd; simp
theorem fre_lt (h:fre n L < n):usd L (fre n L)=false:=by
 have hl:fre n L < (List.range n).length:=by rw [List.length_range]; exact h
 have h1:(fun c=>!usd L c) ((List.range n)[fre n L]'hl)=true:=List.findIdx_getElem (xs:=List.range n) (p:=fun c=>!usd L c) (w:=hl)
 rw [List.getElem_range] at h1
 simpa using h1
theorem fre_before {j:Nat} (h:j < fre n L):usd L j=true:=by
 have hl:j < (List.range n).length:=Nat.lt_of_lt_of_le h List.findIdx_le_length
 have:=List.not_of_lt_findIdx (xs:=List.range n) (p:=fun c=>!usd L c) h
 rw [List.getElem_range] at this
 simpa using this
theorem fre_le:fre n L≤n:=by have:=List.findIdx_le_length (xs:=List.range n) (p:=fun c=>!usd L c); rw [List.length_range] at this; exact this
theorem nodup_le:∀ (n:Nat) (l:List Nat),l.Nodup→(∀ x ∈ l,x < n)→l.length≤n
 | 0,l,_,h=>by
  rcases l with _ | ⟨x,t⟩
  ·simp
  ·have:=h x (by simp); omega
 | n+1,l,hd,h=>by
  by_cases hm:n ∈ l
  ·have h1:=nodup_le n (l.erase n) (hd.erase _) (fun x hx=>by
    have h2:=(List.Nodup.mem_erase_iff hd).1 hx
    have:=h x h2.2
    have:=h2.1
    omega)
   rw [List.length_erase_of_mem hm] at h1
   omega
  ·have h1:=nodup_le n l hd (fun x hx=>by
    have:=h x hx
    have:x≠n:=fun e=>hm (e ▸ hx)
    omega)
   omega
end
/-- What Open knows of the first k cells. -/
def opn (D:Dk):Nat→List (Nat × Nat)
 | 0=>[]
 | k+1=>if rdE (D.rd k)=0∧kn (opn D k) (rdS (D.rd k))=false then opn D k ++ [(k,rdS (D.rd k))] else opn D k
theorem opn_hit {D:Dk} {k:Nat} (h:rdE (D.rd k)=0∧kn (opn D k) (rdS (D.rd k))=false):opn D (k+1)=opn D k ++ [(k,rdS (D.rd k))]:=by
 show (if _ then _ else _)=_
 rw [if_pos h]
theorem opn_miss {D:Dk} {k:Nat} (h:¬ (rdE (D.rd k)=0∧kn (opn D k) (rdS (D.rd k))=false)):opn D (k+1)=opn D k:=by
 show (if _ then _ else _)=_
 rw [if_neg h]
/-- A vault: its disk, and what it knows, each with its cell. -/
structure Vt where
 D:Dk
 L:List (Nat × Nat)
/-- What may be known of n cells. -/
structure KnOk (n:Nat) (L:List (Nat × Nat)):Prop where
 cl:∀ p ∈ L,p.1 < n
 nm:∀ p ∈ L,p.2 < N96
 dn:(L.map Prod.snd).Nodup
 dc:(L.map Prod.fst).Nodup
section
variable {n:Nat} {L:List (Nat × Nat)}
theorem KnOk.nil (n:Nat):KnOk n []:=⟨by simp,by simp,by simp,by simp⟩
theorem KnOk.len (h:KnOk n L):L.length≤n:=by
 have:=nodup_le n (L.map Prod.fst) h.dc (fun x hx=>by
  obtain ⟨p,hp,rfl⟩:=List.mem_map.1 hx
  exact h.cl p hp)
 rwa [List.length_map] at this
theorem nodup_ix {l:List Nat} (h:l.Nodup) {i j x:Nat} (hi:l[i]?=some x) (hj:l[j]?=some x):i=j:=by
 obtain ⟨h1,e1⟩:=List.getElem?_eq_some_iff.1 hi
 obtain ⟨h2,e2⟩:=List.getElem?_eq_some_iff.1 hj
 rcases Nat.lt_trichotomy i j with g | g | g
 ·exact absurd (e1.trans e2.symm) (List.pairwise_iff_getElem.1 h i j h1 h2 g)
 ·exact g
 ·exact absurd (e2.trans e1.symm) (List.pairwise_iff_getElem.1 h j i h2 h1 g)
theorem nodup_snoc {l:List Nat} {x:Nat} (h:l.Nodup) (hx:x ∉ l):(l ++ [x]).Nodup:=List.nodup_append.2 ⟨h,by simp,fun a ha b hb=>by
 simp at hb
 subst hb
 exact fun e=>hx (e ▸ ha)⟩
theorem KnOk.snoc (h:KnOk n L) {c s:Nat} (hc:c < n) (hs:s < N96) (hk:kn L s=false) (hu:usd L c=false):KnOk n (L ++ [(c,s)]):=by
 refine ⟨fun p hp=>?_,fun p hp=>?_,?_,?_⟩
 ·rcases List.mem_append.1 hp with g | g
  ·exact h.cl p g
  ·simp at g; subst g; exact hc
 ·rcases List.mem_append.1 hp with g | g
  ·exact h.nm p g
  ·simp at g; subst g; exact hs
 ·rw [List.map_append]
  refine nodup_snoc h.dn fun hm=>?_
  obtain ⟨p,hp,e⟩:=List.mem_map.1 hm
  exact kn_not hk p hp e
 ·rw [List.map_append]
  refine nodup_snoc h.dc fun hm=>?_
  obtain ⟨p,hp,e⟩:=List.mem_map.1 hm
  have:=usd_iff.2 ⟨p,hp,e⟩
  rw [hu] at this
  cases this
theorem KnOk.erase (h:KnOk n L) (i:Nat):KnOk n (L.eraseIdx i) :=
 ⟨fun p hp=>h.cl p (List.mem_of_mem_eraseIdx hp),fun p hp=>h.nm p (List.mem_of_mem_eraseIdx hp),h.dn.sublist ((List.eraseIdx_sublist _ _).map _),h.dc.sublist ((List.eraseIdx_sublist _ _).map _)⟩
theorem KnOk.mono (h:KnOk n L) {m:Nat} (hm:n≤m):KnOk m L:=⟨fun p hp=>Nat.lt_of_lt_of_le (h.cl p hp) hm,h.nm,h.dn,h.dc⟩
/-- A name stands once alone. -/
theorem KnOk.one (h:KnOk n L) {c s:Nat} (hm:(c,s) ∈ L):kn L s=true∧cel L s=c:=by
 have hk:kn L s=true:=kn_iff.2 ⟨_,hm,rfl⟩
 refine ⟨hk,?_⟩
 obtain ⟨i,hi⟩:=List.getElem?_of_mem hm
 have h2:=ix_get hk
 have e:i=ixl L s:=nodup_ix h.dn (x:=s) (by rw [List.getElem?_map,hi]; rfl) (by rw [List.getElem?_map,h2]; rfl)
 rw [e,h2] at hi
 injection hi with hi
 exact congrArg Prod.fst hi
theorem kn_erase (h:KnOk n L) {s t:Nat} (hk:kn L s=true):kn (L.eraseIdx (ixl L s)) t=(kn L t && !(s == t)):=by
 have hg:=ix_get hk
 obtain ⟨hl,he⟩:=List.getElem?_eq_some_iff.1 hg
 by_cases e:s=t
 ·subst e
  simp only [beq_self_eq_true,Bool.not_true,Bool.and_false]
  cases hx:kn (L.eraseIdx (ixl L s)) s
  ·rfl
  ·exfalso
   obtain ⟨p,hp,e2⟩:=kn_iff.1 hx
   obtain ⟨j,hj,hpj⟩:=List.mem_eraseIdx_iff_getElem?.1 hp
   have e3:=(h.one (c:=p.1) (s:=s) (by rw [← e2]; exact List.mem_of_getElem? hpj)).2
   exact hj (nodup_ix h.dn (x:=s) (by rw [List.getElem?_map,hpj]; simp [e2]) (by rw [List.getElem?_map,hg]; rfl))
 ·have:(s == t)=false:=by simp [e]
  rw [this,Bool.not_false,Bool.and_true]
  cases hx:kn L t
  ·cases hy:kn (L.eraseIdx (ixl L s)) t
   ·rfl
   ·obtain ⟨p,hp,e2⟩:=kn_iff.1 hy
    exact absurd e2 (kn_not hx p (List.mem_of_mem_eraseIdx hp))
  ·refine kn_iff.2 ?_
   obtain ⟨p,hp,e2⟩:=kn_iff.1 hx
   obtain ⟨j,hj⟩:=List.getElem?_of_mem hp
   refine ⟨p,List.mem_eraseIdx_iff_getElem?.2 ⟨j,fun e3=>?_,hj⟩,e2⟩
   rw [e3,hg] at hj
   injection hj with hj
   exact e (by rw [← e2,← hj])
end
theorem opn_ok (D:Dk):∀ k,KnOk k (opn D k)
 | 0=>KnOk.nil 0
 | k+1=>by
  by_cases h:rdE (D.rd k)=0∧kn (opn D k) (rdS (D.rd k))=false
  ·rw [opn_hit h]
   refine ((opn_ok D k).mono (Nat.le_succ k)).snoc (Nat.lt_succ_self k) (rdS_lt _) h.2 ?_
   cases hu:usd (opn D k) k
   ·rfl
   ·obtain ⟨p,hp,e⟩:=usd_iff.1 hu
    have:=(opn_ok D k).cl p hp
    omega
  ·rw [opn_miss h]
   exact (opn_ok D k).mono (Nat.le_succ k)
namespace Vt
def n (V:Vt):Nat:=V.D.cells.length
structure Ok (V:Vt):Prop where
 dk:V.D.Ok
 kn:KnOk V.n V.L
def free (V:Vt):Nat:=fre V.n V.L
def bgE (V:Vt) (s:Nat) (b:List UInt8):Nat:=if Go.Proofs.YtnfcfdhlmeimhaaGreat.kn V.L s=true then 7 else if 65524 < b.length∨V.D.size < 24+b.length then 29 else if V.free < V.n then 0 else 20
def bg (V:Vt) (s:Nat) (b:List UInt8):Vt:=if V.bgE s b=0 then ⟨V.D.put V.free (frV s b),V.L ++ [(V.free,s)]⟩ else V
def pt (V:Vt) (s:Nat) (b:List UInt8):Vt:=if V.bgE s b=0 then ⟨(V.bg s b).D.sync,(V.bg s b).L⟩ else V
def at_ (V:Vt) (s:Nat):List UInt8:=V.D.rd (cel V.L s)
def gtE (V:Vt) (s:Nat):Nat:=if Go.Proofs.YtnfcfdhlmeimhaaGreat.kn V.L s=true then (if rdE (V.at_ s)=0 then (if rdS (V.at_ s)=s then 0 else 21) else rdE (V.at_ s)) else 6
def gtB (V:Vt) (s:Nat):List UInt8:=if V.gtE s=0 then rdB (V.at_ s) else []
def drE (V:Vt) (s:Nat):Nat:=if Go.Proofs.YtnfcfdhlmeimhaaGreat.kn V.L s=true then 0 else 6
def dr (V:Vt) (s:Nat):Vt:=if V.drE s=0 then ⟨(V.D.put (cel V.L s) []).sync,V.L.eraseIdx (ixl V.L s)⟩ else V
def opened (D:Dk):Vt:=⟨D,opn D D.cells.length⟩
end Vt
section
variable {V:Vt} {s:Nat} {b:List UInt8}
theorem Vt.bgE_ok (h:V.bgE s b=0):kn V.L s=false∧b.length≤65524∧24+b.length≤V.D.size∧V.free < V.n:=by
 unfold Vt.bgE at h
 split at h
 ·omega
 ·rename_i hk
  split at h
  ·omega
  ·split at h
   ·refine ⟨?_,by omega,by omega,by assumption⟩
    cases hx:kn V.L s
    ·rfl
    ·exact absurd hx hk
   ·omega
theorem put_n (D:Dk) (z:Int) (b:List UInt8):(D.put z b).cells.length=D.cells.length:=by unfold Dk.put; split <;> rfl
theorem put_size (D:Dk) (z:Int) (b:List UInt8):(D.put z b).size=D.size:=by unfold Dk.put; split <;> rfl
theorem sync_n (D:Dk):D.sync.cells.length=D.cells.length:=doG_len _ _
theorem put_loose (D:Dk) (z:Int) (b:List UInt8):(D.put z b).loose.length≤D.loose.length+1:=by
 unfold Dk.put
 split
 ·simp
 ·omega
theorem put_syncs (D:Dk) (z:Int) (b:List UInt8):(D.put z b).syncs=D.syncs:=by unfold Dk.put; split <;> rfl
theorem Vt.bg_yes (h:V.bgE s b=0):V.bg s b=⟨V.D.put V.free (frV s b),V.L ++ [(V.free,s)]⟩:=by unfold Vt.bg; rw [if_pos h]
theorem Vt.bg_no (h:V.bgE s b≠0):V.bg s b=V:=by unfold Vt.bg; rw [if_neg h]
theorem Vt.pt_yes (h:V.bgE s b=0):V.pt s b=⟨(V.bg s b).D.sync,(V.bg s b).L⟩:=by unfold Vt.pt; rw [if_pos h]
theorem Vt.pt_no (h:V.bgE s b≠0):V.pt s b=V:=by unfold Vt.pt; rw [if_neg h]
theorem Vt.bg_put (h:V.bgE s b=0):V.D.putE V.free (frV s b)=0:=by
 obtain ⟨h1,h2,h3,h4⟩:=Vt.bgE_ok h
 unfold Dk.putE
 rw [if_pos ⟨by omega,by unfold Vt.n at h4; omega⟩,if_neg (by rw [frV_len]; omega)]
theorem Vt.Ok.bg (h:V.Ok) (hs:s < N96):(V.bg s b).Ok:=by
 by_cases e:V.bgE s b=0
 ·rw [Vt.bg_yes e]
  obtain ⟨h1,h2,h3,h4⟩:=Vt.bgE_ok e
  refine ⟨h.dk.put _ _,?_⟩
  show KnOk (V.D.put V.free (frV s b)).cells.length _
  rw [put_n]
  exact h.kn.snoc h4 hs h1 (fre_lt h4)
 ·rw [Vt.bg_no e]
  exact h
theorem Vt.dr_yes (h:V.drE s=0):V.dr s=⟨(V.D.put (cel V.L s) []).sync,V.L.eraseIdx (ixl V.L s)⟩:=by unfold Vt.dr; rw [if_pos h]
theorem Vt.dr_no (h:V.drE s≠0):V.dr s=V:=by unfold Vt.dr; rw [if_neg h]
theorem Vt.Ok.cel_in (h:V.Ok) (hk:Go.Proofs.YtnfcfdhlmeimhaaGreat.kn V.L s=true):V.D.In (cel V.L s):=⟨by omega,by have:=h.kn.cl _ (cel_mem hk); unfold Vt.n at this; exact Int.ofNat_lt.2 this⟩
theorem Vt.Ok.dr_put (h:V.Ok) (hk:Go.Proofs.YtnfcfdhlmeimhaaGreat.kn V.L s=true):V.D.putE (cel V.L s) []=0:=by
 unfold Dk.putE
 rw [if_pos (h.cel_in hk),if_neg (by simp)]
theorem Vt.Ok.dr (h:V.Ok) (s:Nat):(V.dr s).Ok:=by
 by_cases e:V.drE s=0
 ·rw [Vt.dr_yes e]
  refine ⟨(h.dk.put _ _).sync,?_⟩
  show KnOk (Dk.sync _).cells.length _
  rw [sync_n,put_n]
  exact h.kn.erase _
 ·rw [Vt.dr_no e]
  exact h
theorem Vt.opened_ok {D:Dk} (h:D.Ok):(Vt.opened D).Ok:=⟨h,opn_ok D _⟩
/-- Another disk with as many cells. -/
theorem Vt.Ok.disk (h:V.Ok) {D:Dk} (hD:D.Ok) (hn:D.cells.length=V.D.cells.length):(Vt.mk D V.L).Ok:=⟨hD,by show KnOk D.cells.length _; rw [hn]; exact h.kn⟩
theorem Vt.gtB_err (h:V.gtE s≠0):V.gtB s=[]:=by unfold Vt.gtB; rw [if_neg h]
end
/-- Where a name goes among the first k. -/
def dwn (s:Nat) (out:List Nat):Nat→Nat
 | 0=>0
 | k+1=>if s < out.getD k 0 then dwn s out k else k+1
def insL (s:Nat) (out:List Nat):List Nat:=out.take (dwn s out out.length) ++ [s] ++ out.drop (dwn s out out.length)
/-- The names of the first k, in order. -/
def lst (L:List (Nat × Nat)):Nat→List Nat
 | 0=>[]
 | k+1=>insL (L.getD k (0,0)).2 (lst L k)
theorem dwn_le (s:Nat) (out:List Nat) (k:Nat):dwn s out k≤k:=by
 induction k with
 | zero=>exact Nat.le_refl _
 | succ k ih =>
  unfold dwn
  split
  ·omega
  ·omega
theorem insL_len (s:Nat) (out:List Nat):(insL s out).length=out.length+1:=by
 have:=dwn_le s out out.length
 unfold insL
 simp only [List.length_append,List.length_take,List.length_drop,List.length_cons,List.length_nil]
 omega
theorem lst_len (L:List (Nat × Nat)) (k:Nat):(lst L k).length=k:=by
 induction k with
 | zero=>rfl
 | succ k ih=>show (insL _ _).length=_; rw [insL_len,ih]
theorem insL_perm (s:Nat) (out:List Nat):(insL s out).Perm (s :: out):=by
 unfold insL
 rw [List.append_assoc,List.singleton_append]
 refine List.perm_middle.trans ?_
 rw [List.take_append_drop]
theorem lst_perm (L:List (Nat × Nat)):∀ k,k≤L.length→(lst L k).Perm ((L.take k).map Prod.snd)
 | 0,_=>by simp [lst]
 | k+1,h=>by
  have ih:=lst_perm L k (by omega)
  have e:L.take (k+1)=L.take k ++ [L.getD k (0,0)]:=by
   rw [List.take_add_one,List.getElem?_eq_getElem (by omega),List.getD_eq_getElem?_getD,List.getElem?_eq_getElem (by omega)]
   rfl
  rw [e,List.map_append]
  exact (insL_perm _ _).trans ((ih.cons _).trans (List.perm_append_singleton _ _).symm)
/-- Of what ascends the one more stands right. -/
theorem dwn_spec {s:Nat} {out:List Nat} (hs:out.Pairwise (· < ·)) (hn:s ∉ out):∀ k,k≤out.length→(∀ j,k≤j→j < out.length→s < out.getD j 0) →
  (∀ j,j < dwn s out k→out.getD j 0 < s)∧∀ j,dwn s out k≤j→j < out.length→s < out.getD j 0
 | 0,_,h=>⟨fun j hj=>by simp [dwn] at hj,fun j _ hj=>h j (Nat.zero_le _) hj⟩
 | k+1,hk,h=>by
  unfold dwn
  have hg:∀ j (hj:j < out.length),out.getD j 0=out[j]:=fun j hj=>by rw [List.getD_eq_getElem?_getD,List.getElem?_eq_getElem hj]; rfl
  split
  ·rename_i hlt
   exact dwn_spec hs hn k (by omega) fun j h1 h2=>by
    rcases Nat.lt_or_ge k j with g | g
    ·exact h j (by omega) h2
    ·rw [show j=k by omega]; exact hlt
  ·rename_i hge
   refine ⟨fun j hj=>?_,h⟩
   have hkl:k < out.length:=by omega
   have hne:out.getD k 0≠s:=fun e=>hn (by rw [← e,hg k hkl]; exact List.getElem_mem hkl)
   have hks:out.getD k 0 < s:=by omega
   rcases Nat.lt_or_ge j k with g | g
   ·have:=List.pairwise_iff_getElem.1 hs j k (by omega) hkl g
    rw [hg j (by omega)]
    rw [hg k hkl] at hks
    omega
   ·rw [show j=k by omega]; exact hks
theorem insL_sorted {s:Nat} {out:List Nat} (hs:out.Pairwise (· < ·)) (hn:s ∉ out):(insL s out).Pairwise (· < ·):=by
 obtain ⟨h1,h2⟩:=dwn_spec hs hn out.length (Nat.le_refl _) (fun j a b=>by omega)
 have hd:=dwn_le s out out.length
 have hg:∀ j (hj:j < out.length),out.getD j 0=out[j]:=fun j hj=>by rw [List.getD_eq_getElem?_getD,List.getElem?_eq_getElem hj]; rfl
 unfold insL
 generalize dwn s out out.length=k at h1 h2 hd
 have t1:∀ x ∈ out.take k,x < s:=fun x hx=>by
  obtain ⟨j,hj⟩:=List.getElem?_of_mem hx
  rw [List.getElem?_take] at hj
  split at hj
  ·rename_i hjk
   have:=h1 j hjk
   rw [List.getD_eq_getElem?_getD,hj] at this
   exact this
  ·cases hj
 have t2:∀ x ∈ out.drop k,s < x:=fun x hx=>by
  obtain ⟨j,hj⟩:=List.getElem?_of_mem hx
  rw [List.getElem?_drop] at hj
  have hl:=(List.getElem?_eq_some_iff.1 hj).1
  have:=h2 (k+j) (by omega) hl
  rw [List.getD_eq_getElem?_getD,hj] at this
  exact this
 rw [List.append_assoc]
 refine List.pairwise_append.2 ⟨hs.sublist (List.take_sublist _ _),?_,fun x hx y hy=>?_⟩
 ·exact List.pairwise_cons.2 ⟨t2,hs.sublist (List.drop_sublist _ _)⟩
 ·rcases List.mem_cons.1 hy with rfl | hy
  ·exact t1 x hx
  ·have:=t1 x hx
   have:=t2 y hy
   omega
theorem lst_sorted {L:List (Nat × Nat)} (hd:(L.map Prod.snd).Nodup):∀ k,k≤L.length→(lst L k).Pairwise (· < ·)
 | 0,_=>by simp [lst]
 | k+1,h=>by
  refine insL_sorted (lst_sorted hd k (by omega)) fun hm=>?_
  have hm':=(lst_perm L k (by omega)).mem_iff.1 hm
  obtain ⟨p,hp,e⟩:=List.mem_map.1 hm'
  obtain ⟨j,hj⟩:=List.getElem?_of_mem hp
  rw [List.getElem?_take] at hj
  split at hj
  ·rename_i hjk
   have hk:L[k]?=some (L.getD k (0,0)):=by rw [List.getD_eq_getElem?_getD,List.getElem?_eq_getElem (by omega)]; rfl
   have:=nodup_ix hd (i:=j) (j:=k) (x:=p.2) (by rw [List.getElem?_map,hj]; rfl) (by rw [List.getElem?_map,hk]; exact congrArg some e.symm)
   omega
  ·cases hj
/-- Of the same names there is one row that ascends. -/
theorem sorted_one:∀ {a b:List Nat},a.Pairwise (· < ·)→b.Pairwise (· < ·)→(∀ x,x ∈ a ↔ x ∈ b)→a=b
 | [],[],_,_,_=>rfl
 | [],y :: b,_,_,h=>by have:=(h y).2 (by simp); simp at this
 | x :: a,[],_,_,h=>by have:=(h x).1 (by simp); simp at this
 | x :: a,y :: b,ha,hb,h=>by
  obtain ⟨a1,a2⟩:=List.pairwise_cons.1 ha
  obtain ⟨b1,b2⟩:=List.pairwise_cons.1 hb
  have e:x=y:=by
   rcases List.mem_cons.1 ((h x).1 (by simp)) with e | e
   ·exact e
   ·rcases List.mem_cons.1 ((h y).2 (by simp)) with g | g
    ·exact g.symm
    ·have:=b1 x e
     have:=a1 y g
     omega
  subst e
  congr 1
  refine sorted_one a2 b2 fun z=>⟨fun hz=>?_,fun hz=>?_⟩
  ·rcases List.mem_cons.1 ((h z).1 (List.mem_cons_of_mem _ hz)) with e | e
   ·have:=a1 z hz; omega
   ·exact e
  ·rcases List.mem_cons.1 ((h z).2 (List.mem_cons_of_mem _ hz)) with e | e
   ·have:=b1 z hz; omega
   ·exact e
def Vt.lst (V:Vt):List Nat:=Go.Proofs.YtnfcfdhlmeimhaaGreat.lst V.L V.L.length
theorem Vt.Ok.sorted {V:Vt} (h:V.Ok):V.lst.Pairwise (· < ·):=lst_sorted h.kn.dn _ (Nat.le_refl _)
theorem Vt.lst_mem {V:Vt} (x:Nat):x ∈ V.lst ↔ Go.Proofs.YtnfcfdhlmeimhaaGreat.kn V.L x=true:=by
 have:=(lst_perm V.L V.L.length (Nat.le_refl _)).mem_iff (a:=x)
 rw [List.take_length] at this
 rw [show V.lst=Go.Proofs.YtnfcfdhlmeimhaaGreat.lst V.L V.L.length from rfl,this,kn_iff,List.mem_map]
end Go.Proofs.YtnfcfdhlmeimhaaGreat
