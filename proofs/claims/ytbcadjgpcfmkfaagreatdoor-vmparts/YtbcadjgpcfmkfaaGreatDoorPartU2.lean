/- Base; CPure; CBase. -/
import Derived.Test.YtbcadjgpcfmkfaaGreatDoorProg
import Derived.WalkKit
import Derived.WalkSpells
import Derived.WalkLawsBesides
import Derived.BigQuiet
import Derived.Deep.AppendLies
import Derived.Deep.RegionLaw
import Derived.Deep.RegionWith
import Derived.Maps.OwnSet
import Derived.Maps.OwnOps
import Derived.Deep.RegionHeld3
import Derived.Maps.Views
import Derived.StringKeys
import Derived.Lib.ItoaNum
import Derived.Test.YtbcadjgpcfmkfaaGreatDoorPartU1
set_option maxHeartbeats 0
set_option maxRecDepth 100000
set_option linter.unusedSimpArgs false
namespace Go.Proofs.YtbcadjgpcfmkfaaGreatDoor
open Go Go.RowKit
section
def bs (l:Bs):ByteArray:=⟨l.toArray⟩
theorem vQ (l:Bs):(bs l).data.toList=l:=rfl
theorem dz (l:Bs):(bs l).size=l.length:=by simp[bs,ByteArray.size]
theorem hide {p:Prop} (h:p):Hid p:=h
def Sl {α:Type} (enc:α->List Value) (sz:Nat) (w:World) (v:Value) (l:List α):Prop:=
 ∃ao cap,v=.slice ao l.length cap/\l.length<=maxLen/\∀i x,l[i]?=some x->∃b off,ao=some ⟨b,off,none⟩/\b<w.heap.size/\∀j u,(enc x)[j]?=some u->w.cell? ⟨b,off+i*sz+j,none⟩=some u
structure Fr (S:Nat->Prop) (w w':World):Prop where
 os:w'.os=w.os
 tape:w'.tape=w.tape
 output:w'.output=w.output
 size:w.heap.size<=w'.heap.size
 block:∀k,k<w.heap.size->¬S k->w'.heap[k]?=w.heap[k]?
theorem Fr.refl (S:Nat->Prop) (w:World):Fr S w w:=⟨rfl,rfl,rfl,Nat.le_refl _,fun _ _ _=>rfl⟩
theorem Fr.trans {S:Nat->Prop} {a b c:World} (h:Fr S a b) (k:Fr S b c):Fr S a c:=
 ⟨k.os.trans h.os,k.tape.trans h.tape,k.output.trans h.output,Nat.le_trans h.size k.size,fun j hj hs=>(k.block j (Nat.lt_of_lt_of_le hj h.size) hs).trans (h.block j hj hs)⟩
theorem Fr.mono {S S':Nat->Prop} {a b:World} (h:Fr S a b) (hs:∀k,k<a.heap.size->S k->S' k):Fr S' a b:=
 ⟨h.os,h.tape,h.output,h.size,fun j hj hn=>h.block j hj (fun x=>hn (hs j hj x))⟩
theorem Fr.drew {S:Nat->Prop} {a b:World} (h:Fr S a b):Fr S a b.drew:=⟨h.os,h.tape,h.output,h.size,h.block⟩
theorem Fr.drewN {S:Nat->Prop} {a b:World} (h:Fr S a b) (n:Nat):Fr S a (b.drewN n):=⟨h.os,h.tape,h.output,h.size,h.block⟩
theorem Fr.alloc {S:Nat->Prop} {a b:World} (h:Fr S a b) (o:Obj):Fr S a (b.alloc o):=
 h.trans ⟨rfl,rfl,rfl,by simp,fun k hk _=>Below.heap_alloc b o k hk⟩
theorem Fr.setCell {S:Nat->Prop} {a b:World} (h:Fr S a b) {p:Addr} (hp:S p.block\/a.heap.size<=p.block) (u:Value):Fr S a (b.setCell p u):=by
 refine⟨h.os,h.tape,h.output,?_,fun k hk hs=>?_⟩
 ·have:=h.size;simpa[World.setCell] using this
 ·rw[Below.heap_setCell b p u k (by rintro rfl;rcases hp with hp|hp;exact hs hp;omega)];exact h.block k hk hs
theorem Fr.grown {S:Nat->Prop} {a b c:World} {row:Option Nat} (h:Fr S a b) (hg:b.grownBy c row) (hr:∀k,row=some k->S k\/a.heap.size<=k):Fr S a c:=
 ⟨hg.os.trans h.os,hg.tape.trans h.tape,hg.output.trans h.output,Nat.le_trans h.size hg.size,fun k hk hs=>by
  rw[hg.block k (Nat.lt_of_lt_of_le hk h.size) (by
   intro e;rcases hr k e.symm with h1|h1
   ·exact hs h1
   ·omega)]
  exact h.block k hk hs⟩
theorem Fr.of_below {B:Nat} {a b:World} (h:Below B a b) (hB:a.heap.size<=B) (S:Nat->Prop):Fr S a b:=
 ⟨h.os,h.tape,h.output,h.size,fun k hk _=>h.block k (Nat.lt_of_lt_of_le hk hB)⟩
theorem Fr.below {S:Nat->Prop} {a b:World} (h:Fr S a b) {B:Nat} (hB:B<=a.heap.size) (hs:∀k,k<B->¬S k):Below B a b:=
 ⟨h.os,h.tape,h.output,h.size,fun k hk=>h.block k (Nat.lt_of_lt_of_le hk hB) (hs k hk)⟩
theorem Fr.cell {S:Nat->Prop} {w w':World} (h:Fr S w w') {p:Addr} (hp:p.block<w.heap.size) (hs:¬S p.block):w'.cell? p=w.cell? p:=
 World.cell?_of_block (w:=w) (h.block p.block hp hs)
theorem Fr.frozen {S:Nat->Prop} {w w':World} (h:Fr S w w') {p:Addr} (hp:p.block<w.heap.size) (hs:¬S p.block):w'.frozen? p=w.frozen? p:=
 World.frozen?_of_block (w:=w) (h.block p.block hp hs)
abbrev nothing:Nat->Prop:=fun _=>False
theorem lt_of_cell {w:World} {p:Addr} {v:Value} (h:w.cell? p=some v):p.block<w.heap.size:=by
 unfold World.cell? at h;rcases Nat.lt_or_ge p.block w.heap.size with h1|h1
 ·exact h1
 ·rw[Array.getElem?_eq_none h1] at h;simp at h
theorem Sl.fr {α:Type} {enc:α->List Value} {sz:Nat} {w w':World} {v:Value} {l:List α} {S:Nat->Prop} (h:Sl enc sz w v l) (hf:Fr S w w')
 (hs:∀k,(∃ao n c,v=.slice (some ao) n c/\ao.block=k)->¬S k):Sl enc sz w' v l:=by
 obtain⟨ao,cap,rfl,hm,hc⟩:=h;refine⟨ao,cap,rfl,hm,fun i x hx=>?_⟩
 obtain⟨b,off,rfl,hb,hcell⟩:=hc i x hx;refine⟨b,off,rfl,Nat.lt_of_lt_of_le hb hf.size,fun j u hu=>?_⟩
 rw[hf.cell (p:=⟨b,off+i*sz+j,none⟩) hb (hs b ⟨_,_,_,rfl,rfl⟩)];exact hcell j u hu
theorem bK {α:Type} (enc:α->List Value) (sz:Nat) (he:∀x,(enc x).length=sz):∀l:List α,(l.flatMap enc).length=l.length*sz
 |[]=>by simp
 |x::l=>by simp[List.flatMap_cons,he,bK enc sz he l,Nat.add_mul,Nat.add_comm]
theorem flat_get {α:Type} (enc:α->List Value) (sz:Nat) (he:∀x,(enc x).length=sz):∀(l:List α) (i:Nat) (x:α) (j:Nat) (u:Value),l[i]?=some x->(enc x)[j]?=some u->(l.flatMap enc)[i*sz+j]?=some u
 |[],i,x,j,u,h,_=>by simp at h
 |y::l,0,x,j,u,h,hu=>by
  simp at h;subst h
  have hj:j<sz:=by rw[<-he y];exact(List.getElem?_eq_some_iff.1 hu).1
  rw[List.flatMap_cons,Nat.zero_mul,Nat.zero_add,List.getElem?_append_left (by rw[he];exact hj)];exact hu
 |y::l,i+1,x,j,u,h,hu=>by
  rw[List.flatMap_cons,List.getElem?_append_right (by rw[he];have:(i+1)*sz=i*sz+sz:=Nat.succ_mul i sz;omega),he];have h1:=flat_get enc sz he l i x j u (by simpa using h) hu;rw[show(i+1)*sz+j-sz=i*sz+j by have:(i+1)*sz=i*sz+sz:=Nat.succ_mul i sz;omega]
  exact h1
theorem eX {α:Type} {enc:α->List Value} {sz:Nat} (he:∀x,(enc x).length=sz) {w:World} {base:Nat} {e:TypeId} {v:Value} {l:List α}
 (h:w.ownsRow base e sz v l.length (l.flatMap enc)):Sl enc sz w v l:=by
 rcases h.2 with⟨rfl,h0⟩|⟨g,cap,cur,rfl,hb,hg,hn,hc,hs,ht⟩
 ·have:l=[]:=List.length_eq_zero_iff.1 h0;subst this;exact⟨none,0,rfl,by unfold maxLen;simp,fun i x hx=>by simp at hx⟩
 ·refine⟨some ⟨g,0,none⟩,cap,rfl,by omega,fun i x hx=>⟨g,0,rfl,?_,fun j u hu=>?_⟩⟩
  ·rcases Nat.lt_or_ge g w.heap.size with h1|h1
   ·exact h1
   ·rw[Array.getElem?_eq_none h1] at hg;cases hg
  ·have hlt:i*sz+j<l.length*sz:=by
    have h1:i<l.length:=(List.getElem?_eq_some_iff.1 hx).1;have h2:j<sz:=by rw[<-he x];exact(List.getElem?_eq_some_iff.1 hu).1
    have h3:(i+1)*sz<=l.length*sz:=Nat.mul_le_mul_right sz h1;have h4:(i+1)*sz=i*sz+sz:=Nat.succ_mul i sz;omega
   rw[show 0+i*sz+j=i*sz+j by omega,h.cellAt _ hlt];exact flat_get enc sz he l i x j u hx hu
theorem kS {w:World} {O1 O2:Obj} {b j:Nat} (h:b<w.heap.size):((w.alloc O1).alloc O2).cell? ⟨b,j,none⟩=w.cell? ⟨b,j,none⟩:=by
 rw[World.cell?_alloc_past _ _ _ (by simp;omega),World.cell?_alloc_past _ _ _ h]
theorem NL {w:World} {O1 O2:Obj} {b j:Nat} (h:b<w.heap.size):((w.alloc O1).alloc O2).frozen? ⟨b,j,none⟩=w.frozen? ⟨b,j,none⟩:=by
 rw[World.frozen?_alloc_past _ _ _ (by simp;omega),World.frozen?_alloc_past _ _ _ h]
theorem nU {f:UInt8->Bool} {v:Bs} {k:Nat} (h:(v.take k).all f=true) (hk:k<v.length) {c:UInt8} (hc:v[k]=c) (hf:f c=true):(v.take (k+1)).all f=true:=by
 rw[List.take_succ_eq_append_getElem hk,List.all_append,h,hc];simp[hf]
theorem kT {f:UInt8->Bool} {v:Bs} {k:Nat} (hk:k<v.length) {c:UInt8} (hc:v[k]=c) (hf:f c=false):v.all f=false:=by
 rw[List.all_eq_false];exact⟨c,hc▸List.getElem_mem hk,by simp[hf]⟩
theorem gY (a:Bs):(bs a).toList=a:=by rw[ByteArray.toList_eq];rfl
theorem uW {a b:Bs} (h:¬a=b):((bs a).toList==(bs b).toList)=false:=by rw[gY,gY];simpa using h
theorem CB (a:Bs):((bs a).toList==(bs a).toList)=true:=by simp
theorem hd {P : Program} {ops : Array Oper} {Q : Exit -> Act -> World -> Prop} {S : World -> Prop} {id : Nat} {a : Act} {w : World} (H : Hid (∀ w', Fr nothing w w' -> S w')) (h : S w.drew -> wpAnyH P .any ops Q S ops.size (Array.replicate ops.size false) a w.drew) (hm : P.follows .mixedOrders = true := by kernel_rfl) : (Code.region id ops true).wp P Q a w := wp_region_held_drew hm (H.out _ (Fr.refl nothing w).drew) h
end
end Go.Proofs.YtbcadjgpcfmkfaaGreatDoor
section
namespace Go.pG
structure Val where
 k:Int
 n:Int
 t:ByteArray
structure aV where
 l:Val
 r:Val
def zeroV:Val:=⟨0,0,⟨#[]⟩⟩
def ZH:aV:=⟨zeroV,zeroV⟩
def jG (a b:Val):Bool:=a.k==b.k&&a.n==b.n&&a.t.toList==b.t.toList
def sameC (a b:aV):Bool:=jG a.l b.l&&jG a.r b.r
def cellAt (h:List aV) (i:Nat):aV:=h.getD i ZH
theorem LH {a b:ByteArray} (h:a.toList=b.toList):a=b:=by
 rw[ByteArray.toList_eq,ByteArray.toList_eq] at h;obtain⟨⟨x⟩⟩:=a;obtain⟨⟨y⟩⟩:=b;simp at h
 rw[h]
def Ac (n:Nat) (v:Val):Bool:=v.k==2&&(decide (0<=v.n)&&decide (v.n<n))
theorem rM {n:Nat} {v:Val}:Ac n v=true↔v.k=2/\0<=v.n/\v.n<n:=by simp[Ac]
def meet (n:Nat) (o:List Nat) (v:Val):List Nat:=
 if Ac n v then(if v.n.toNat∈o then o else o++ [v.n.toNat]) else o
def ren (n:Nat) (o:List Nat) (v:Val):Val:=
 if Ac n v then⟨v.k,(o.idxOf v.n.toNat:Nat),v.t⟩ else v
def wO (h:List aV) (o:List Nat) (i:Nat):aV:=
 ⟨ren h.length o (cellAt h i).l,ren h.length o (cellAt h i).r⟩
def qi (h:List aV) (o:List Nat) (i:Nat):List Nat:=
 meet h.length (meet h.length o (cellAt h i).l) (cellAt h i).r
def close (h:List aV):Nat->List Nat->Nat->List Nat
 |0,o,_=>o
 |f+1,o,d=>match o[d]? with
  |none=>o
  |some i=>close h f (qi h o i) (d+1)
def rO (h:List aV) (o:List Nat) (v:Val):List Nat:=
 close h (h.length-o.length) (meet h.length o v) o.length
def dm (h:List aV) (l:List Val):List Nat:=l.foldl (rO h) []
def mO (h:List aV) (l:List Val):List Val:=l.map (ren h.length (dm h l))
def CE (h:List aV) (l:List Val):List aV:=(dm h l).map (wO h (dm h l))
def Ok (n:Nat) (o:List Nat):Prop:=o.Nodup/\∀i∈o,i<n
theorem iG:∀(n:Nat) (o:List Nat),o.Nodup->(∀i∈o,i<n)->o.length<=n
 |0,o,_,h=>by
  cases o with
  |nil=>simp
  |cons a o=>exact absurd (h a (by simp)) (by omega)
 |n+1,o,hd,h=>by
  by_cases hm:n∈o
  ·have h1:=iG n (o.erase n) (hd.erase n) (fun i hi=>by
    have h2:=h i (List.mem_of_mem_erase hi);have h3:i≠n:=by
     intro e;subst e;exact(List.Nodup.mem_erase_iff hd).1 hi|>.1 rfl
    omega)
   rw[List.length_erase_of_mem hm] at h1;omega
  ·have:=iG n o hd (fun i hi=>by
    have h2:=h i hi;have h3:i≠n:=fun e=>hm (e▸hi);omega)
   omega
theorem Ok.le {n:Nat} {o:List Nat} (h:Ok n o):o.length<=n:=iG n o h.1 h.2
theorem Wv (n:Nat):Ok n []:=⟨by simp,by simp⟩
theorem mP {n:Nat} {o:List Nat} (h:Ok n o) (v:Val):Ok n (meet n o v):=by
 unfold meet;split
 ·rename_i hv
  split
  ·exact h
  ·rename_i hm
   refine⟨?_,?_⟩
   ·rw[List.nodup_append];exact⟨h.1,by simp,fun a ha b hb e=>hm (by simp at hb;rw[<-hb,<-e];exact ha)⟩
   ·intro i hi;rcases List.mem_append.1 hi with h1|h1
    ·exact h.2 i h1
    ·simp at h1
     obtain⟨_,h2,h3⟩:=rM.1 hv;omega
 ·exact h
theorem iA (n:Nat) (o:List Nat) (v:Val):o<+:meet n o v:=by
 unfold meet;split
 ·split
  ·exact List.prefix_refl _
  ·exact List.prefix_append _ _
 ·exact List.prefix_refl _
theorem nV {n:Nat} {v:Val} (o:List Nat) (hv:Ac n v):v.n.toNat∈meet n o v:=by
 unfold meet;rw[if_pos hv];split
 ·assumption
 ·simp
theorem wP {h:List aV} {o:List Nat} (ho:Ok h.length o) (i:Nat):Ok h.length (qi h o i):=mP (mP ho _) _
theorem jV (h:List aV) (o:List Nat) (i:Nat):o<+:qi h o i:=(iA _ _ _).trans (iA _ _ _)
theorem D8 {h:List aV}:∀(f:Nat) (o:List Nat) (d:Nat),Ok h.length o->Ok h.length (close h f o d)
 |0,_,_,ho=>ho
 |f+1,o,d,ho=>by
  unfold close;split
  ·exact ho
  ·exact D8 f _ _ (wP ho _)
theorem pI {h:List aV}:∀(f:Nat) (o:List Nat) (d:Nat),o<+:close h f o d
 |0,_,_=>List.prefix_refl _
 |f+1,o,d=>by
  unfold close;split
  ·exact List.prefix_refl _
  ·exact(jV _ _ _).trans (pI f _ _)
def Has (h:List aV) (o:List Nat) (i:Nat):Prop:=
 (Ac h.length (cellAt h i).l->(cellAt h i).l.n.toNat∈o)/\(Ac h.length (cellAt h i).r->(cellAt h i).r.n.toNat∈o)
theorem Has.mono {h:List aV} {o o':List Nat} {i:Nat} (hh:Has h o i) (hp:o<+:o'):Has h o' i:=
 ⟨fun x=>hp.subset (hh.1 x),fun x=>hp.subset (hh.2 x)⟩
theorem LJ (h:List aV) (o:List Nat) (i:Nat):Has h (qi h o i) i:=
 ⟨fun x=>(iA _ _ _).subset (nV _ x),fun x=>nV _ x⟩
def vJ (h:List aV) (o:List Nat) (d:Nat):Prop:=∀j i,j<d->o[j]?=some i->Has h o i
theorem fP {o o':List Nat} (hp:o<+:o') {j i:Nat} (h:o[j]?=some i):o'[j]?=some i:=by
 obtain⟨s,rfl⟩:=hp;rw[List.getElem?_append_left]
 ·exact h
 ·exact(List.getElem?_eq_some_iff.1 h).1
theorem Bf {h:List aV} {o:List Nat} {d i:Nat} (hu:vJ h o d) (hi:o[d]?=some i):vJ h (qi h o i) (d+1):=by
 intro j x hj hx;rcases Nat.lt_or_ge j d with h1|h1
 ·have hl:j<o.length:=Nat.lt_trans h1 (List.getElem?_eq_some_iff.1 hi).1;have h2:o[j]?=some o[j]:=List.getElem?_eq_getElem hl;have h3:=fP (jV h o i) h2;rw[h3] at hx;obtain rfl:=Option.some.inj hx;exact(hu j _ h1 h2).mono (jV h o i)
 ·obtain rfl:j=d:=by omega
  have h3:=fP (jV h o i) hi;rw[h3] at hx;obtain rfl:=Option.some.inj hx;exact LJ h o i
theorem wQ {h:List aV}:∀(f:Nat) (o:List Nat) (d:Nat),Ok h.length o->d+f=h.length->vJ h o d->d<=o.length->vJ h (close h f o d) (close h f o d).length
 |0,o,d,ho,hf,hu,_=>by
  have:=ho.le;unfold close;intro j i hj;exact hu j i (by omega)
 |f+1,o,d,ho,hf,hu,hd=>by
  unfold close;split
  ·rename_i he
   intro j i hj hi;have:=List.getElem?_eq_none_iff.1 he;exact hu j i (by omega) hi
  ·rename_i i hi
   refine wQ f _ _ (wP ho _) (by omega) (Bf hu hi) ?_
   have h1:=(jV h o i).length_le;have h2:=(List.getElem?_eq_some_iff.1 hi).1;omega
def Done (h:List aV) (o:List Nat):Prop:=Ok h.length o/\vJ h o o.length
theorem NN (h:List aV):Done h []:=⟨Wv _,fun j i hj=>absurd hj (by simp)⟩
theorem Gq {h:List aV} {o:List Nat} (hd:Done h o) (v:Val):Done h (rO h o v):=by
 refine⟨D8 _ _ _ (mP hd.1 v),?_⟩
 have h1:=hd.1.le;have hp:=iA h.length o v;refine wQ _ _ _ (mP hd.1 v) (by omega) ?_ hp.length_le
 intro j i hj hi;have h2:o[j]?=some o[j]:=List.getElem?_eq_getElem hj;rw[fP hp h2] at hi;obtain rfl:=Option.some.inj hi;exact(hd.2 j _ hj h2).mono hp
theorem LK (h:List aV) (o:List Nat) (v:Val):o<+:rO h o v:=(iA _ _ _).trans (pI _ _ _)
theorem LM {h:List aV} {v:Val} (o:List Nat) (hv:Ac h.length v):v.n.toNat∈rO h o v:=
 (pI _ _ _).subset (nV o hv)
theorem wR {h:List aV}:∀(l:List Val) (o:List Nat),Done h o->Done h (l.foldl (rO h) o)
 |[],_,hd=>hd
 |v::l,_,hd=>wR l _ (Gq hd v)
theorem Bg {h:List aV}:∀(l:List Val) (o:List Nat),o<+:l.foldl (rO h) o
 |[],_=>List.prefix_refl _
 |v::l,o=>(LK h o v).trans (Bg l _)
theorem Bh {h:List aV}:∀(l:List Val) (o:List Nat) (v:Val),v∈l->Ac h.length v->v.n.toNat∈l.foldl (rO h) o
 |[],_,_,hv,_=>absurd hv (by simp)
 |x::l,o,v,hv,hr=>by
  rcases List.mem_cons.1 hv with rfl|h1
  ·exact(Bg l _).subset (LM o hr)
  ·exact Bh l _ v h1 hr
theorem LP (h:List aV) (l:List Val):Done h (dm h l):=wR l [] (NN h)
theorem NP {h:List aV} {l:List Val} {v:Val} (hv:v∈l) (hr:Ac h.length v):v.n.toNat∈dm h l:=Bh l [] v hv hr
theorem LQ (h:List aV) (l:List Val) (v:Val):dm h (l++ [v])=rO h (dm h l) v:=by simp[dm]
theorem CF {o o':List Nat} (hp:o<+:o') {i:Nat} (h:i∈o):o'.idxOf i=o.idxOf i:=by
 obtain⟨s,rfl⟩:=hp;rw[List.idxOf_append,if_pos h]
theorem kg {n:Nat} {o o':List Nat} (hp:o<+:o') {v:Val} (h:Ac n v->v.n.toNat∈o):ren n o' v=ren n o v:=by
 unfold ren;split
 ·rename_i hv
  rw[CF hp (h hv)]
 ·rfl
theorem D9 {h:List aV} {o o':List Nat} (hp:o<+:o') {i:Nat} (hh:Has h o i):wO h o' i=wO h o i:=by
 unfold wO;rw[kg hp hh.1,kg hp hh.2]
theorem Bi {h:List aV} {f:Nat} {o:List Nat} {d:Nat} (hd:o.length<=d):close h f o d=o:=by
 cases f with
 |zero=>rfl
 |succ f=>
  unfold close;rw[List.getElem?_eq_none_iff.2 hd]
theorem NQ {h:List aV} {o:List Nat} {d:Nat} (hn:o.length<=h.length) (hd:d<o.length):close h (h.length-d) o d=close h (h.length-(d+1)) (qi h o (o.getD d 0)) (d+1):=by
 obtain⟨f,hf⟩:∃f,h.length-d=f+1:=⟨h.length-d-1,by omega⟩
 rw[hf,show h.length-(d+1)=f by omega]
 conv=>lhs;unfold close
 rw[List.getElem?_eq_getElem hd];simp[List.getD_eq_getElem?_getD,List.getElem?_eq_getElem hd]
end Go.pG
end
namespace Go.Proofs.YtbcadjgpcfmkfaaGreatDoor
open Go Go.RowKit
section
open Go.pG
namespace Cl
abbrev vv (x:Val):Value:=.agg #[.int .i64 x.k,.int .i64 x.n,.string x.t]
abbrev cv (x:aV):Value:=.agg #[.int .i64 x.l.k,.int .i64 x.l.n,.string x.l.t,.int .i64 x.r.k,.int .i64 x.r.n,.string x.r.t]
def aP (x:Val):List Value:=[.int .i64 x.k,.int .i64 x.n,.string x.t]
def bZ (x:aV):List Value:=[.int .i64 x.l.k,.int .i64 x.l.n,.string x.l.t,.int .i64 x.r.k,.int .i64 x.r.n,.string x.r.t]
theorem Ea (x:Val):(aP x).length=3:=rfl
theorem jH (x:aV):(bZ x).length=6:=rfl
theorem Ww:(Tryz.prog.info? 53).map (fun i=>(i.zero,i.size,i.bytes))=some (some (.agg #[.int .i64 0,.int .i64 0,.string ⟨#[]⟩]),3,32):=by kernel_rfl
theorem Wx:(Tryz.prog.info? 88).map (fun i=>(i.zero,i.size,i.bytes))=some (some (.agg #[.int .i64 0,.int .i64 0,.string ⟨#[]⟩,.int .i64 0,.int .i64 0,.string ⟨#[]⟩]),6,64):=by kernel_rfl
end Cl
end
end Go.Proofs.YtbcadjgpcfmkfaaGreatDoor
