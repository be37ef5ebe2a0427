/- GRight; GStays; MRow. -/
import Derived.ArgAppend
import Derived.Test.YtbcadjgpcfmkfaaGreatDoorPartU10
import Derived.Test.YtbcadjgpcfmkfaaGreatDoorPartU1
set_option maxHeartbeats 0
set_option maxRecDepth 100000
set_option linter.unusedSimpArgs false
namespace Go.Proofs.YtbcadjgpcfmkfaaGreatDoor
open Go Go.RowKit
section
theorem bB {a:Ag}:fq a=0↔(0<=a.id/\a.id<=1073741824/\0<=a.bu/\a.bu<=1073741824)/\(0<=a.fuel/\a.fuel<=2000/\0<=a.cells/\a.cells<=60/\0<=a.hops/\a.hops<=12)/\(a.fr.length≠0/\a.fr.length<=12)/\a.hp.length+a.cells<=60:=by
 unfold fq;constructor
 ·intro h;split at h
  ·cases h
  split at h
  ·cases h
  split at h
  ·cases h
  split at h
  ·cases h
  omega
 ·rintro⟨h1,h2,h3,h4⟩;rw[if_neg (by omega),if_neg (by omega),if_neg (by omega),if_neg (by omega)]
structure At (a:Ag) (pre:List Fm) (f:Fm) (c:Cz) (i:In) (st x:List Val):Prop where
 R:ZV a false pre f
 V:FrV a.pg f c
 cm:c∈a.pg.cs
 ie:i=c.ins.getD f.at_.toNat uw
 inn:CX a.pg c i=0
 hc:(aj c.ins).2=0
 sx:f.stack=st++x
 lx:(x.length:Int)=(aC i).1
 nx:∀z∈jg i f.at_ (st.length+(aC i).2),0<=z.1/\(aj c.ins).1[z.1.toNat]?=some z.2
 le:(st.length:Int)+(aC i).2<=16
 r18:i.op=18->st=[]
 fu:1<=a.fuel
 hw:(aj c.ins).1[f.at_.toNat]?=some (f.stack.length:Int)
abbrev aL (a:Ag):Ag:={a with fuel:=a.fuel-1}
abbrev gone (f:Fm) (st:List Val):Fm:={f with at_:=f.at_+1,stack:=st}
theorem Ew {a:Ag} {pre:List Fm} {f:Fm} (h:a.fr=pre++ [f]):nD a=f:=by unfold nD;rw[h];simp
theorem G9 {p:Pz} {c:Cz} {i:In} (h:CX p c i=0) (hp:∀c∈p.cs,0<=c.np):0<=(aC i).1:=by
 refine(Br i (fun ho=>?_)).1
 rw[(sj h).2.2.2.2];unfold bC;rw[if_pos ho];unfold Me;cases hg:p.cs[i.a.toNat]? with
 |none=>simp
 |some c'=>simpa using hp c' (List.mem_of_getElem? hg)
theorem Vz {sh:List aV->Val->Bs} {a:Ag} {s:Sp} (h:dx a false=0) (hf:a.fuel≠0):∃pre f c st x,At a pre f c (uA a f) st x/\jS sh a s=opC sh (aL a) s (gone f st) (uA a f) x:=by
 obtain⟨pre,f,R⟩:=qz h;obtain⟨c,V,-,hst⟩:=eZ.1 R.tp;simp only[Vy,Bool.false_eq_true,if_false,ne_eq,not_true_eq_false,Int.sub_zero] at hst;have hcm:c∈a.pg.cs:=List.mem_of_getElem? V.cd;obtain⟨p1,p2,p3,p4,p5⟩:=uB R.pg hcm;have hi:uA a f=c.ins.getD f.at_.toNat uw:=by
  unfold uA;rw[show a.pg.cs.getD f.fn.toNat xI=c by simp[List.getD_eq_getElem?_getD,V.cd]]
 have hlt:f.at_.toNat<c.ins.length:=by have:=V.OB;have:=V.YX;omega
 have him:uA a f∈c.ins:=by
  rw[hi,List.getD_eq_getElem?_getD,List.getElem?_eq_getElem hlt];exact List.getElem_mem hlt
 have hin:=p1 _ him;have hg:=Eu hst.symm (by omega);obtain⟨f1,f2,f3,f4⟩:=Db p2 hg (by omega);rw[<-hi] at f1 f2 f4;have hnn:=G9 hin (fun c' hc'=>(uB R.pg hc').2.2.1);have hpu:=lV (uA a f);have hk:ou a f<=f.stack.length:=by unfold ou;omega
 have hkl:(ou a f:Int)=f.stack.length-(aC (uA a f)).1:=by unfold ou;omega
 have ha0:=V.OB;have hp2:((f.at_.toNat:Nat):Int)=f.at_:=by omega
 have hcv:=(bB.1 R.ct).2.1.1;have hlen:(f.stack.take (ou a f)).length=ou a f:=by rw[List.length_take];omega
 have hm:mC c.ins f.at_.toNat f.stack.length=(f.stack.take (ou a f)).length+(aC (uA a f)).2:=by
  rw[hlen];unfold mC;rw[<-hi];omega
 rw[hm] at f3 f4;rw[hp2] at f4;refine⟨pre,f,c,f.stack.take (ou a f),f.stack.drop (ou a f),⟨R,V,hcm,hi,hin,p2,(List.take_append_drop _ _).symm,by rw[List.length_drop];omega,f4,f3,fun e=>?_,by omega,hg⟩,?_⟩
 ·have hs1:(aC (uA a f)).1=1:=by
   unfold aC;rw[e];rfl
  have:=f2 e;exact List.eq_nil_of_length_eq_zero (by rw[hlen];omega)
 ·unfold jS;rw[if_neg hf,Ew R.fr]
def ZW (a:Ag):Prop:=(∀f∈a.fr,eB a.hp.length f)/\∀c∈a.hp,cellC a.hp.length c=0
theorem ZV.vals {a:Ag} {away:Bool} {pre:List Fm} {f:Fm} (R:ZV a away pre f):∀g∈pre,eB a.hp.length g:=fun g hg=>by
 obtain⟨k,hk⟩:=List.mem_iff_getElem?.1 hg;exact(R.pr k g hk).2
structure qA (a:Ag) (r:Ag×Ev):Prop where
 go:r.2.k=0\/r.2.k=2->dx r.1 false=0
 out:r.2.k=3->dx r.1 true=0/\∀n:Int,-1073741824<=n->n<=1073741824->dx (Dc r.1 n) false=0
 vals:ZW r.1
 pg:r.1.pg=a.pg
section
variable {a : Ag} {pre : List Fm} {f : Fm} {c : Cz} {i : In} {st x : List Val}
theorem At.next (A:At a pre f c i st x) (h1:i.op≠15) (h2:i.op≠18):(aj c.ins).1[(f.at_+1).toNat]?=some ((st.length:Int)+(aC i).2):=by
 refine(A.nx (f.at_+1,st.length+(aC i).2) ?_).2
 unfold jg;rw[if_pos ⟨h1,h2⟩];simp
theorem At.vals (A:At a pre f c i st x):(∀v∈f.vars,ah a.hp.length v=0)/\(∀v∈st,ah a.hp.length v=0)/\∀v∈x,ah a.hp.length v=0:=by
 have h:=A.R.vs;unfold eB at h;rw[A.sx] at h;exact⟨h.1,fun v hv=>h.2 v (by simp[hv]),fun v hv=>h.2 v (by simp[hv])⟩
theorem At.He (A:At a pre f c i st x) (k:Nat) (hk:(k:Int)<(aC i).1):ah a.hp.length (x.getD k v0)=0:=by
 have:=A.lx;have hl:k<x.length:=by omega
 rw[List.getD_eq_getElem?_getD,List.getElem?_eq_getElem hl];exact A.vals.2.2 _ (List.getElem_mem hl)
theorem At.top (A:At a pre f c i st x) {a':Ag} {f':Fm} (hfr:a'.fr=pre++ [f']) (Ay:a'.pg=a.pg) (hct:fq a'=0) (hm:a.hp.length<=a'.hp.length) (hfn:f'.fn=f.fn) (h0:0<=f'.at_)
 (hh:(aj c.ins).1[f'.at_.toNat]?=some (f'.stack.length:Int)) (hv:f'.vars.length=f.vars.length) (hvs:eB a'.hp.length f') (hcs:∀x∈a'.hp,cellC a'.hp.length x=0):dx a' false=0:=by
 refine(xN hfr).2 ⟨hfr,by rw[Ay];exact A.R.pg,hct,?_,?_,hvs,hcs⟩
 ·rw[Ay,hfn];exact A.R.pr.mono (by omega)
 ·rw[Ay];refine eZ.2 ⟨c,⟨by rw[hfn];exact A.V.fn,by rw[hfn];exact A.V.cd,h0,?_,by rw[hv];exact A.V.vars⟩,fun e=>by exact absurd rfl e,?_⟩
  ·have:=(List.getElem?_eq_some_iff.1 hh).1;rw[ku A.hc] at this;omega
  ·rw[gZ hh];simp[Vy]
theorem At.Bv (A:At a pre f c i st x):a.fr.dropLast=pre:=by rw[A.R.fr];simp
theorem At.YY (A:At a pre f c i st x) {a':Ag} (h1:a'.id=a.id) (h2:a'.bu=a.bu) (h3:a'.fuel=a.fuel-1) (h4:0<=a'.cells/\a'.cells<=a.cells) (h5:0<=a'.hops/\a'.hops<=a.hops) (h6:a'.fr.length≠0/\a'.fr.length<=12) (h7:a'.hp.length+a'.cells<=a.hp.length+a.cells):fq a'=0:=by
 obtain⟨k1,k2,k3,k4⟩:=bB.1 A.R.ct;have:=A.fu;exact bB.2 ⟨by omega,by omega,h6,by omega⟩
theorem At.YZ (A:At a pre f c i st x):pre.length+1<=12:=by
 have h:=(bB.1 A.R.ct).2.2.1.2;rw[A.R.fr] at h;simpa using h
theorem pR (A:At a pre f c i st x) {a':Ag} {f':Fm} (hfr:a'.fr=pre++ [f']) (hm:a.hp.length<=a'.hp.length) (hvs:eB a'.hp.length f') (hcs:∀x∈a'.hp,cellC a'.hp.length x=0):ZW a':=by
 refine⟨fun g hg=>?_,hcs⟩
 rw[hfr] at hg;rcases List.mem_append.1 hg with hg|hg
 ·exact(A.R.vals g hg).mono (by omega)
 ·rw[List.mem_singleton.1 hg];exact hvs
theorem At.ZX (A:At a pre f c i st x):eB a.hp.length (gone f st):=⟨A.vals.1,A.vals.2.1⟩
theorem At.push (A:At a pre f c i st x) {v:Val} (h1:i.op≠15) (h2:i.op≠18) (hp:(aC i).2=1) (hv:ah a.hp.length v=0):qA a (bI (aL a) (bT (gone f st) v),dB):=by
 have hfr:(bI (aL a) (bT (gone f st) v)).fr=pre++ [bT (gone f st) v]:=by show a.fr.dropLast++_=_;rw[A.Bv]
 have hvs:eB a.hp.length (bT (gone f st) v):=⟨A.vals.1,fun u hu=>by
  rcases List.mem_append.1 hu with hu|hu
  ·exact A.vals.2.1 u hu
  ·rw[List.mem_singleton.1 hu];exact hv⟩
 have hn:=A.next h1 h2;rw[hp] at hn;obtain⟨k1,k2,k3,k4⟩:=bB.1 A.R.ct;have ha0:=A.V.OB;refine⟨fun _=>A.top hfr rfl (A.YY rfl rfl rfl ⟨by show 0<=a.cells;omega,Int.le_refl _⟩ ⟨by show 0<=a.hops;omega,Int.le_refl _⟩ ?_ (Int.le_refl _)) (Nat.le_refl _) rfl (by show 0<=f.at_+1;omega) ?_ rfl hvs A.R.hp,fun e=>(by cases e),pR A hfr (Nat.le_refl _) hvs A.R.hp,rfl⟩
 ·rw[hfr];have:=A.YZ;simp;omega
 ·show(aj c.ins).1[(f.at_+1).toNat]?=some (((st++ [v]).length:Nat):Int)
  rw[hn];simp
theorem At.quiet (A:At a pre f c i st x) {a':Ag} {f':Fm} {e:Ev} (he:e.k≠3) (_hp:(aC i).2=0) (hfr:a'.fr=pre++ [f']) (Ay:a'.pg=a.pg) (hid:a'.id=a.id) (htr:a'.bu=a.bu) (hfu:a'.fuel=a.fuel-1) (hce:a'.cells=a.cells) (hho:a'.hops=a.hops) (Ey:a'.hp.length=a.hp.length) (hcs:∀x∈a'.hp,cellC a.hp.length x=0)
 (hfn:f'.fn=f.fn) (hst:f'.stack=st) (hvl:f'.vars.length=f.vars.length) (hvv:∀v∈f'.vars,ah a.hp.length v=0) (h0:0<=f'.at_) (hh:(aj c.ins).1[f'.at_.toNat]?=some (st.length:Int)):qA a (a',e):=by
 have hvs:eB a'.hp.length f':=by rw[Ey];exact⟨hvv,by rw[hst];exact A.vals.2.1⟩
 obtain⟨k1,k2,k3,k4⟩:=bB.1 A.R.ct;rw[<-Ey] at hcs;refine⟨fun _=>A.top (a':=a') hfr Ay (A.YY (a':=a') hid htr hfu ⟨by omega,by omega⟩ ⟨by omega,by omega⟩ ?_ (by omega)) (by omega) hfn h0 (by rw[hst];exact hh) hvl hvs hcs,fun e=>absurd e he,pR (a':=a') A hfr (by omega) hvs hcs,Ay⟩
 rw[hfr];have:=A.YZ;simp;omega
theorem At.dead (A:At a pre f c i st x) {e:Int}:qA a (bI (aL a) (gone f st),bQ e):=by
 have hfr:(bI (aL a) (gone f st)).fr=pre++ [gone f st]:=by show a.fr.dropLast++_=_;rw[A.Bv]
 exact⟨fun h=>(by rcases h with h|h<;>cases h),fun h=>(by cases h),pR A hfr (Nat.le_refl _) A.ZX A.R.hp,rfl⟩
end
theorem lX {m n:Int} (h0:-1073741824<=n) (h1:n<=1073741824):ah m ⟨0,n,[]⟩=0:=by
 unfold ah;rw[if_pos rfl,if_neg (by show ¬(n<_\/_<n);omega)]
 rfl
theorem Hf (m n:Int):ah m (si n)=0:=by
 have h1:=Int.tmod_lt_of_pos n (show(0:Int)<1073741825 by decide);have h2:=Int.tmod_lt_of_pos (-n) (show(0:Int)<1073741825 by decide);rw[Int.neg_tmod] at h2;exact lX (by omega) (by omega)
theorem oC (m:Int) (t:Bs):ah m (ji t)=0:=by
 unfold ah ji;rw[if_neg (by show ¬(1:Int)=0;decide),if_pos rfl,if_neg (by show ¬60<(t.take 60).length;rw[List.length_take];omega),if_neg (by simp)]
theorem Hg (m:Int) (b:Bool):ah m (qI b)=0:=by cases b<;>exact lX (by decide) (by decide)
theorem su (m:Int):ah m v0=0:=lX (by decide) (by decide)
theorem Mg {m op:Int} {a b:Val}:ah m (iN op a b).1=0:=by
 unfold iN
 repeat' split
 all_goals first|exact su _|exact Hg _ _|exact oC _ _|exact Hf _ _
theorem kC {m:Int} {v:Val} (h:ah m v=0) (hk:v.k=2):0<=v.n/\v.n<m:=by
 unfold ah at h;rw[hk,if_neg (by decide),if_neg (by decide),if_pos rfl] at h;split at h
 ·cases h
 ·omega
structure TB (s:Sp):Prop where
 f:∀x∈s.facts,ah 0 x.2=0
theorem Hl {s:Sp} (h:TB s) (k:Bs) {m:Int} (hm:0<=m):ah m (jk s.facts k)=0:=by
 unfold jk;cases hg:s.facts.find? fun x=>x.1==k with
 |none=>exact su _
 |some y=>exact eF (h.f y (List.mem_of_find?_eq_some hg)) hm
end
section
section
variable {a : Ag} {pre : List Fm} {f : Fm} {c : Cz} {i : In} {st x : List Val}
theorem At.jump (A:At a pre f c i st x) (h:i.op=15\/i.op=16):0<=i.a/\(aj c.ins).1[i.a.toNat]?=some ((st.length:Int)+(aC i).2):=by
 refine A.nx (i.a,st.length+(aC i).2) ?_
 unfold jg;rw[if_pos h];simp
theorem At.call (A:At a pre f c i st x) (o:i.op=17) (hl:¬12<=a.fr.length):qA a ({aL a with fr:=a.fr.dropLast++ [gone f st]++ [⟨i.a,0,x++List.replicate ((a.pg.cs.getD i.a.toNat xI).nv.toNat-x.length) v0,[]⟩]},dB):=by
 have hv:=sj A.inn;have hsh:aC i=(i.b,1):=by unfold aC;rw[if_pos o]
 have hlo:DR i.op=0:=by rw[o];rfl
 have hhi:DT a.pg c i.op=(a.pg.cs.length:Int)-1:=by rw[o];rfl
 rw[hlo,hhi] at hv;have hil:i.a.toNat<a.pg.cs.length:=by omega
 obtain⟨c',hc'⟩:∃c',a.pg.cs[i.a.toNat]?=some c':=⟨_,List.getElem?_eq_getElem hil⟩
 have hgd:a.pg.cs.getD i.a.toNat xI=c':=by simp[List.getD_eq_getElem?_getD,hc']
 have hcm:c'∈a.pg.cs:=List.mem_of_getElem? hc';obtain⟨-,q2,q3,q4,q5⟩:=uB A.R.pg hcm;have hb:i.b=c'.np:=by
  rw[hv.2.2.2.2];unfold bC;rw[if_pos o];simp[Me,hc']
 have hlx:=A.lx;rw[hsh] at hlx;simp only at hlx;have hn:=A.next (by omega) (by omega);rw[hsh] at hn;simp only at hn;have ha0:=A.V.OB;have hnl:=(List.getElem?_eq_some_iff.1 hn).1;rw[ku A.hc] at hnl;rw[A.Bv,hgd];have hfrl:a.fr.length=pre.length+1:=by rw[A.R.fr];simp
 have hw1:frameC a.pg (gone f st) (17,i.a)=0:=by
  refine eZ.2 ⟨c,⟨A.V.fn,A.V.cd,by show 0<=f.at_+1;omega,by show f.at_+1<_;omega,A.V.vars⟩,fun _=>⟨by show f.at_+1≠0;omega,?_,?_,?_⟩,?_⟩
  ·show bN c ((f.at_+1).toNat-1)≠-1
   rw[show(f.at_+1).toNat-1=f.at_.toNat by omega,gZ A.hw];omega
  ·show(c.ins.getD ((f.at_+1).toNat-1) uw).op=17
   rw[show(f.at_+1).toNat-1=f.at_.toNat by omega,<-A.ie];exact o
  ·show(c.ins.getD ((f.at_+1).toNat-1) uw).a=i.a
   rw[show(f.at_+1).toNat-1=f.at_.toNat by omega,<-A.ie]
  ·show(st.length:Int)=bN c (f.at_+1).toNat-_
   rw[gZ hn];simp
 have Bw:eB a.hp.length ⟨i.a,0,x++List.replicate (c'.nv.toNat-x.length) v0,[]⟩:=⟨fun v hv'=>by
  rcases List.mem_append.1 hv' with hv'|hv'
  ·exact A.vals.2.2 v hv'
  ·rw[(List.mem_replicate.1 hv').2];exact su _,fun v hv'=>by cases hv'⟩
 have hwt:frameC a.pg ⟨i.a,0,x++List.replicate (c'.nv.toNat-x.length) v0,[]⟩ (Vy false)=0:=by
  refine eZ.2 ⟨c',⟨by show 0<=i.a;omega,hc',Int.le_refl 0,by show 0<(c'.ins.length:Int);omega,?_⟩,fun e=>absurd rfl e,?_⟩
  ·show((x++List.replicate (c'.nv.toNat-x.length) v0).length:Int)=c'.nv
   rw[List.length_append,List.length_replicate];omega
  ·show((0:Nat):Int)=bN c' 0-_
   rw[gZ (Av q2 q5)];simp[Vy]
 obtain⟨k1,k2,k3,k4⟩:=bB.1 A.R.ct;refine⟨fun _=>(xN (pre:=pre++ [gone f st]) rfl).2 ⟨rfl,A.R.pg,A.YY rfl rfl rfl ⟨by show 0<=a.cells;omega,Int.le_refl _⟩ ⟨by show 0<=a.hops;omega,Int.le_refl _⟩ ?_ (Int.le_refl _),nE.more (f:=gone f st) A.R.pr hw1 A.ZX,hwt,Bw,A.R.hp⟩,fun e=>(by cases e),⟨fun g hg=>?_,A.R.hp⟩,rfl⟩
 ·simp;omega
 ·rcases List.mem_append.1 hg with hg|hg
  ·rcases List.mem_append.1 hg with hg|hg
   ·exact A.R.vals g hg
   ·rw[List.mem_singleton.1 hg];exact A.ZX
  ·rw[List.mem_singleton.1 hg];exact Bw
theorem At.ret (A:At a pre f c i st x) (o:i.op=18) {sh:Bs}:qA a (if a.fr.dropLast=[] then({aL a with fr:=[]},⟨4,sh,0⟩) else({aL a with fr:=a.fr.dropLast.dropLast++ [bT (a.fr.dropLast.getLastD Ar) (x.getD 0 v0)]},dB)):=by
 have hsh:aC i=(1,0):=by unfold aC;rw[o];rfl
 rw[A.Bv]
 by_cases hp:pre=[]
 ·rw[if_pos hp];exact⟨fun h=>(by rcases h with h|h<;>cases h),fun h=>(by cases h),⟨fun g hg=>(by cases hg),A.R.hp⟩,rfl⟩
 ·rw[if_neg hp];obtain⟨pre',g,rfl⟩:∃pre' g,pre=pre'++ [g]:=⟨_,_,(List.dropLast_concat_getLast hp).symm⟩
  have hd:(pre'++ [g]).dropLast=pre':=by simp
  have hl:(pre'++ [g]).getLastD Ar=g:=by simp
  rw[hd,hl];obtain⟨p1,p2,p3⟩:=nE.less A.R.pr;obtain⟨cg,V,-,hst⟩:=eZ.1 p2;have hx:ah a.hp.length (x.getD 0 v0)=0:=A.He 0 (by rw[hsh];simp)
  have hvs:eB a.hp.length (bT g (x.getD 0 v0)):=⟨p3.1,fun u hu=>by
   rcases List.mem_append.1 hu with hu|hu
   ·exact p3.2 u hu
   ·rw[List.mem_singleton.1 hu];exact hx⟩
  obtain⟨k1,k2,k3,k4⟩:=bB.1 A.R.ct;have hfl:=A.YZ;refine⟨fun _=>(xN (pre:=pre') rfl).2 ⟨rfl,A.R.pg,A.YY rfl rfl rfl ⟨by show 0<=a.cells;omega,Int.le_refl _⟩ ⟨by show 0<=a.hops;omega,Int.le_refl _⟩ ?_ (Int.le_refl _),p1,?_,hvs,A.R.hp⟩,fun e=>(by cases e),⟨fun q hq=>?_,A.R.hp⟩,rfl⟩
  ·rw[List.length_append] at hfl⊢;simp only[List.length_singleton] at hfl⊢;omega
  ·refine eZ.2 ⟨cg,⟨V.fn,V.cd,V.OB,V.YX,V.vars⟩,fun e=>absurd rfl e,?_⟩
   show((g.stack++ [x.getD 0 v0]).length:Int)=bN cg g.at_.toNat-_
   rw[List.length_append];simp[Vy] at hst⊢
   omega
  ·rcases List.mem_append.1 hq with hq|hq
   ·exact A.R.vals q (by simp[hq])
   ·rw[List.mem_singleton.1 hq];exact hvs
theorem At.go (A:At a pre f c i st x) (o:i.op=13) {t:Bs} (hh:0<a.hops):qA a (bI {aL a with hops:=a.hops-1} (gone f st),⟨3,t,0⟩):=by
 have hsh:aC i=(1,1):=by unfold aC;rw[o];rfl
 have hv:=sj A.inn;have hlo:DR i.op=0:=by rw[o];rfl
 have hhi:DT a.pg c i.op=0:=by rw[o];rfl
 rw[hlo,hhi] at hv;have hn:=A.next (by omega) (by omega);rw[hsh] at hn;simp only at hn;have ha0:=A.V.OB;have hnl:=(List.getElem?_eq_some_iff.1 hn).1;rw[ku A.hc] at hnl;have hfr:(bI {aL a with hops:=a.hops-1} (gone f st)).fr=pre++ [gone f st]:=by show a.fr.dropLast++_=_;rw[A.Bv]
 obtain⟨k1,k2,k3,k4⟩:=bB.1 A.R.ct;have hct:∀f',fq {aL a with hops:=a.hops-1,fr:=pre++ [f']}=0:=fun f'=>by
  refine A.YY rfl rfl rfl ⟨by show 0<=a.cells;omega,Int.le_refl _⟩ ⟨by show 0<=a.hops-1;omega,by show a.hops-1<=a.hops;omega⟩ ?_ (Int.le_refl _)
  have:=A.YZ;simp;omega
 refine⟨fun h=>(by rcases h with h|h<;>cases h),fun _=>⟨(xN hfr).2 ⟨hfr,A.R.pg,by have:=hct (gone f st);rw[<-A.Bv] at this;exact this,A.R.pr,?_,A.ZX,A.R.hp⟩,fun n n0 n1=>?_⟩,pR A hfr (Nat.le_refl _) A.ZX A.R.hp,rfl⟩
 ·refine eZ.2 ⟨c,⟨A.V.fn,A.V.cd,by show 0<=f.at_+1;omega,by show f.at_+1<_;omega,A.V.vars⟩,fun _=>⟨by show f.at_+1≠0;omega,?_,?_,?_⟩,?_⟩
  ·show bN c ((f.at_+1).toNat-1)≠-1
   rw[show(f.at_+1).toNat-1=f.at_.toNat by omega,gZ A.hw];omega
  ·show(c.ins.getD ((f.at_+1).toNat-1) uw).op=13
   rw[show(f.at_+1).toNat-1=f.at_.toNat by omega,<-A.ie];exact o
  ·show(c.ins.getD ((f.at_+1).toNat-1) uw).a=0
   rw[show(f.at_+1).toNat-1=f.at_.toNat by omega,<-A.ie];omega
  ·show(st.length:Int)=bN c (f.at_+1).toNat-_
   rw[gZ hn];simp[Vy]
 ·have hlf:nD (bI {aL a with hops:=a.hops-1} (gone f st))=gone f st:=Ew hfr;have TC:Dc (bI {aL a with hops:=a.hops-1} (gone f st)) n={aL a with hops:=a.hops-1,fr:=pre++ [bT (gone f st) ⟨0,n,[]⟩]}:=by
   unfold Dc;rw[hlf];unfold bI;simp only[List.dropLast_concat,A.Bv]
  rw[TC];have hvs:eB a.hp.length (bT (gone f st) ⟨0,n,[]⟩):=⟨A.vals.1,fun u hu=>by
   rcases List.mem_append.1 hu with hu|hu
   ·exact A.vals.2.1 u hu
   ·rw[List.mem_singleton.1 hu];exact lX n0 n1⟩
  refine A.top rfl rfl (hct _) (Nat.le_refl _) rfl (by show 0<=f.at_+1;omega) ?_ rfl hvs A.R.hp
  show(aj c.ins).1[(f.at_+1).toNat]?=some (((st++ [(⟨0,n,[]⟩:Val)]).length:Nat):Int)
  rw[hn];simp
theorem TD (A:At a pre f c i st x) {n:Int} (h0:0<=n) (h1:n<a.hp.length):ah a.hp.length (a.hp.getD n.toNat c0).l=0/\ah a.hp.length (a.hp.getD n.toNat c0).r=0:=by
 have hl:n.toNat<a.hp.length:=by omega
 rw[List.getD_eq_getElem?_getD,List.getElem?_eq_getElem hl];exact gQ.1 (A.R.hp _ (List.getElem_mem hl))
theorem At.cells (A:At a pre f c i st x) (o:i.op=6) (hc:¬a.cells<1) {l r:Val} (hl:ah a.hp.length l=0) (hr:ah a.hp.length r=0):qA a (bI {aL a with cells:=a.cells-1,hp:=a.hp++ [⟨l,r⟩]} (bT (gone f st) ⟨2,a.hp.length,[]⟩),dB):=by
 have hsh:aC i=(2,1):=by unfold aC;rw[o];rfl
 have hn:=A.next (by omega) (by omega);rw[hsh] at hn;simp only at hn;have ha0:=A.V.OB;obtain⟨k1,k2,k3,k4⟩:=bB.1 A.R.ct;have hfr:(bI {aL a with cells:=a.cells-1,hp:=a.hp++ [⟨l,r⟩]} (bT (gone f st) ⟨2,a.hp.length,[]⟩)).fr=pre++ [bT (gone f st) ⟨2,a.hp.length,[]⟩]:=by show a.fr.dropLast++_=_;rw[A.Bv]
 have hm:(a.hp.length:Int)<=((a.hp++ [(⟨l,r⟩:aV)]).length:Nat):=by simp;omega
 have hvs:eB (a.hp++ [(⟨l,r⟩:aV)]).length (bT (gone f st) ⟨2,a.hp.length,[]⟩):=⟨fun v hv=>eF (A.vals.1 v hv) hm,fun u hu=>by
  rcases List.mem_append.1 hu with hu|hu
  ·exact eF (A.vals.2.1 u hu) hm
  ·rw[List.mem_singleton.1 hu];unfold ah;rw[if_neg (by show ¬(2:Int)=0;decide),if_neg (by show ¬(2:Int)=1;decide),if_pos rfl,if_neg (by simp;omega)]
   rfl⟩
 have hcs:∀y∈(bI {aL a with cells:=a.cells-1,hp:=a.hp++ [⟨l,r⟩]} (bT (gone f st) ⟨2,a.hp.length,[]⟩)).hp,cellC (a.hp++ [(⟨l,r⟩:aV)]).length y=0:=fun y hy=>by
  rcases List.mem_append.1 hy with hy|hy
  ·have:=gQ.1 (A.R.hp y hy);exact gQ.2 ⟨eF this.1 hm,eF this.2 hm⟩
  ·rw[List.mem_singleton.1 hy];exact gQ.2 ⟨eF hl hm,eF hr hm⟩
 refine⟨fun _=>A.top hfr rfl (A.YY rfl rfl rfl ⟨by show 0<=a.cells-1;omega,by show a.cells-1<=a.cells;omega⟩ ⟨by show 0<=a.hops;omega,Int.le_refl _⟩ ?_ (by show(((a.hp++ [(⟨l,r⟩:aV)]).length:Nat):Int)+(a.cells-1)<=_;simp;omega)) (by show _<=(a.hp++ [(⟨l,r⟩:aV)]).length;simp) rfl (by show 0<=f.at_+1;omega) ?_ rfl hvs hcs,fun e=>(by cases e),pR A hfr (by show _<=(a.hp++ [(⟨l,r⟩:aV)]).length;simp) hvs hcs,rfl⟩
 ·rw[hfr];have:=A.YZ;simp;omega
 ·show(aj c.ins).1[(f.at_+1).toNat]?=some (((st++ [(⟨2,a.hp.length,[]⟩:Val)]).length:Nat):Int)
  rw[hn];simp
theorem At.still (A:At a pre f c i st x) (h1:i.op≠15) (h2:i.op≠18) (hp:(aC i).2=0) {e:Ev} (he:e.k≠3):qA a (bI (aL a) (gone f st),e):=by
 have hn:=A.next h1 h2;rw[hp,Int.add_zero] at hn;have ha0:=A.V.OB;exact A.quiet he hp (f':=gone f st) (by show a.fr.dropLast++_=_;rw[A.Bv]) rfl rfl rfl rfl rfl rfl rfl A.R.hp rfl rfl rfl A.vals.1 (by show 0<=f.at_+1;omega) hn
theorem At.put (A:At a pre f c i st x) (h1:i.op≠15) (h2:i.op≠18) (hp:(aC i).2=0) {k:Nat} {y:aV} (hy:cellC a.hp.length y=0):qA a (bI {aL a with hp:=a.hp.set k y} (gone f st),dB):=by
 have hn:=A.next h1 h2;rw[hp,Int.add_zero] at hn;have ha0:=A.V.OB;refine A.quiet (by decide) hp (f':=gone f st) (by show a.fr.dropLast++_=_;rw[A.Bv]) rfl rfl rfl rfl rfl rfl (by show(a.hp.set k y).length=_;simp) (fun z hz=>?_) rfl rfl rfl A.vals.1 (by show 0<=f.at_+1;omega) hn
 rcases List.mem_or_eq_of_mem_set hz with hz|hz
 ·exact A.R.hp z hz
 ·rw[hz];exact hy
end
theorem aH {i:In} {k p q:Int} (o:i.op=k) (hk:k≠17) (h:((mU.find? fun p=>p.1==k).map Prod.snd).getD (0,0)=(p,q)):aC i=(p,q):=by
 unfold aC;rw[if_neg (by omega),o];exact h
theorem Ho {sh:List aV->Val->Bs} {a:Ag} {s:Sp} (h:dx a false=0) (hs:TB s):qA a (jS sh a s):=by
 by_cases hf:a.fuel=0
 ·unfold jS;rw[if_pos hf];obtain⟨pre,f,R⟩:=qz h;refine⟨fun h=>(by rcases h with h|h<;>cases h),fun h=>(by cases h),⟨fun g hg=>?_,R.hp⟩,rfl⟩
  rw[R.fr] at hg;rcases List.mem_append.1 hg with hg|hg
  ·exact R.vals g hg
  ·rw[List.mem_singleton.1 hg];exact R.vs
 obtain⟨pre,f,c,st,x,A,e⟩:=Vz (sh:=sh) (s:=s) h hf;rw[e];generalize uA a f=i at A;have hv:=sj A.inn;have hm0:(0:Int)<=a.hp.length:=by omega
 unfold opC
 by_cases o1:i.op=1
 ·rw[if_pos o1];have hb:=hv;rw[o1] at hb;exact A.push (by omega) (by omega) (by rw[aH o1 (by decide) rfl]) (lX hb.2.2.1 hb.2.2.2.1)
 rw[if_neg o1]
 by_cases o2:i.op=2
 ·rw[if_pos o2];exact A.push (by omega) (by omega) (by rw[aH o2 (by decide) rfl]) (oC _ _)
 rw[if_neg o2]
 by_cases o3:i.op=3
 ·rw[if_pos o3];have hlo:DR i.op=0:=by rw[o3];rfl
  have hhi:DT a.pg c i.op=c.nv-1:=by rw[o3];rfl
  rw[hlo,hhi] at hv;refine A.push (by omega) (by omega) (by rw[aH o3 (by decide) rfl]) ?_
  have hl:i.a.toNat<f.vars.length:=by have:=A.V.vars;omega
  show ah _ (f.vars.getD i.a.toNat v0)=0
  rw[List.getD_eq_getElem?_getD,List.getElem?_eq_getElem hl];exact A.vals.1 _ (List.getElem_mem hl)
 rw[if_neg o3]
 by_cases o12:i.op=12
 ·rw[if_pos o12];exact A.push (by omega) (by omega) (by rw[aH o12 (by decide) rfl]) (oC _ _)
 rw[if_neg o12]
 by_cases o4:i.op=4
 ·rw[if_pos o4];have hsh:=aH (p:=1) (q:=0) o4 (by decide) rfl;have hn:=A.next (by omega) (by omega);rw[hsh] at hn;simp only[Int.add_zero] at hn;have ha0:=A.V.OB;refine A.quiet (by decide) (by rw[hsh]) (f':={gone f st with vars:=f.vars.set i.a.toNat (x.getD 0 v0)}) (by show a.fr.dropLast++_=_;rw[A.Bv]) rfl rfl rfl rfl rfl rfl rfl A.R.hp rfl rfl (by simp) (fun v hv'=>?_) (by show 0<=f.at_+1;omega) hn
  rcases List.mem_or_eq_of_mem_set hv' with hv'|hv'
  ·exact A.vals.1 v hv'
  ·rw[hv'];exact A.He 0 (by rw[hsh];decide)
 rw[if_neg o4]
 by_cases o5:i.op=5
 ·rw[if_pos o5];split
  ·exact A.dead
  ·exact A.push (by omega) (by omega) (by rw[aH o5 (by decide) rfl]) Mg
 rw[if_neg o5]
 by_cases o6:i.op=6
 ·rw[if_pos o6];have hsh:=aH (p:=2) (q:=1) o6 (by decide) rfl;split
  ·exact A.dead
  ·rename_i hc
   exact A.cells o6 hc (A.He 0 (by rw[hsh];decide)) (A.He 1 (by rw[hsh];decide))
 rw[if_neg o6]
 by_cases o7:i.op=7\/i.op=8\/i.op=9\/i.op=10
 ·rw[if_pos o7]
  by_cases hk:(x.getD 0 v0).k≠2
  ·rw[if_pos hk];exact A.dead
  rw[if_neg hk];have hp1:0<(aC i).1:=by
   rcases o7 with o|o|o|o<;>rw[aH o (by decide) rfl]<;>decide
  obtain⟨b0,b1⟩:=kC (A.He 0 hp1) (Classical.not_not.1 hk);have hcl:=TD A b0 b1;split
  ·rename_i o
   exact A.push (by omega) (by omega) (by rw[aH o (by decide) rfl]) hcl.1
  rename_i o7'
  split
  ·rename_i o
   exact A.push (by omega) (by omega) (by rw[aH o (by decide) rfl]) hcl.2
  rename_i o8'
  split
  ·rename_i o
   have hsh:=aH (p:=2) (q:=0) o (by decide) rfl;exact A.put (by omega) (by omega) (by rw[hsh]) (gQ.2 ⟨A.He 1 (by rw[hsh];decide),hcl.2⟩)
  ·have o:i.op=10:=by omega
   have hsh:=aH (p:=2) (q:=0) o (by decide) rfl;exact A.put (by omega) (by omega) (by rw[hsh]) (gQ.2 ⟨hcl.1,A.He 1 (by rw[hsh];decide)⟩)
 rw[if_neg o7]
 by_cases o11:i.op=11
 ·rw[if_pos o11];split
  ·exact A.dead
  ·exact A.push (by omega) (by omega) (by rw[aH o11 (by decide) rfl]) (Hl hs _ hm0)
 rw[if_neg o11]
 by_cases o13:i.op=13
 ·rw[if_pos o13];split
  ·exact A.dead
  split
  ·rename_i hh
   exact A.go o13 hh
  ·exact A.push (by omega) (by omega) (by rw[aH o13 (by decide) rfl]) (su _)
 rw[if_neg o13]
 by_cases o14:i.op=14
 ·rw[if_pos o14];exact A.still (by omega) (by omega) (by rw[aH o14 (by decide) rfl]) (by show(2:Int)≠3;decide)
 rw[if_neg o14]
 by_cases TE:i.op=15
 ·rw[if_pos TE];have hsh:=aH (p:=0) (q:=0) TE (by decide) rfl;have hj:=A.jump (.inl TE);rw[hsh] at hj;simp only[Int.add_zero] at hj;exact A.quiet (by decide) (by rw[hsh]) (f':={gone f st with at_:=i.a}) (by show a.fr.dropLast++_=_;rw[A.Bv]) rfl rfl rfl rfl rfl rfl rfl A.R.hp rfl rfl rfl A.vals.1 hj.1 hj.2
 rw[if_neg TE]
 by_cases o16:i.op=16
 ·rw[if_pos o16];have hsh:=aH (p:=1) (q:=0) o16 (by decide) rfl;split
  ·have hj:=A.jump (.inr o16);rw[hsh] at hj;simp only[Int.add_zero] at hj;exact A.quiet (by decide) (by rw[hsh]) (f':={gone f st with at_:=i.a}) (by show a.fr.dropLast++_=_;rw[A.Bv]) rfl rfl rfl rfl rfl rfl rfl A.R.hp rfl rfl rfl A.vals.1 hj.1 hj.2
  ·exact A.still (by omega) (by omega) (by rw[hsh]) (by decide)
 rw[if_neg o16]
 by_cases o17:i.op=17
 ·rw[if_pos o17]
  by_cases hl:12<=a.fr.length
  ·rw[if_pos hl];have hfr:(bI (aL a) {gone f st with stack:=st++x}).fr=pre++ [{gone f st with stack:=st++x}]:=by show a.fr.dropLast++_=_;rw[A.Bv]
   exact⟨fun h=>(by rcases h with h|h<;>cases h),fun h=>(by cases h),pR A hfr (Nat.le_refl _) ⟨A.vals.1,fun v hv'=>by
    rcases List.mem_append.1 hv' with hv'|hv'
    ·exact A.vals.2.1 v hv'
    ·exact A.vals.2.2 v hv'⟩ A.R.hp,rfl⟩
  ·rw[if_neg hl];exact A.call o17 hl
 rw[if_neg o17]
 by_cases OC:i.op=18
 ·rw[if_pos OC];exact A.ret OC
 rw[if_neg OC];exact A.still (by omega) (by omega) (by rw[aH (k:=19) (by omega) (by decide) rfl]) (by decide)
end
section
section
variable {α : Type} {enc : α → List Value} {T sz base : Nat}
theorem Own.cut (he:∀x,(enc x).length=sz) {q:ai} {l:List α} {w:World} (h:Own enc T sz base q l w) (k:Nat) (hk:k<=l.length):Own enc T sz base ⟨q.a,k,q.c⟩ (l.take k) w:=by
 have hlt:(l.take k).length=k:=by rw[List.length_take];omega
 refine⟨hlt.symm,?_⟩
 have hfl:(l.take k).flatMap enc=(l.flatMap enc).take (k*sz):=by
  have h1:l.flatMap enc=(l.take k).flatMap enc++(l.drop k).flatMap enc:=by rw[<-List.flatMap_append,List.take_append_drop]
  have h2:=congrArg (List.take (k*sz)) h1;rw[List.take_append_of_le_length (by rw[bK enc sz he,hlt];exact Nat.le_refl _)] at h2
  rw[h2,List.take_of_length_le (i:=k*sz) (l:=(l.take k).flatMap enc) (by rw[bK enc sz he,hlt];exact Nat.le_refl _)]
 rw[hlt];refine⟨by rw[bK enc sz he,hlt],?_⟩
 rcases h.row.2 with⟨e,h0⟩|⟨g,cap,cur,e,h1,h2,h3,h4,h5,h6⟩
 ·simp only[ai.v,Value.slice.injEq] at e;obtain⟨e1,e2,e3⟩:=e;have:k=0:=by omega
  exact .inl ⟨by simp only[ai.v,e1,e3,this],this⟩
 ·simp only[ai.v,Value.slice.injEq] at e;obtain⟨e1,e2,e3⟩:=e;refine .inr ⟨g,cap,cur,by simp only[ai.v,e1,e3],h1,h2,by omega,h4,h5,?_⟩
  rw[hfl,<-h6,List.take_take]
  congr 1
  exact(Nat.min_eq_left (Nat.mul_le_mul_right sz hk)).symm
theorem Ez (he:∀x,(enc x).length=sz):∀(l:List α) (i j:Nat) (x x':α) (u:Value),l[i]?=some x->j<sz->enc x'=(enc x).set j u->(l.set i x').flatMap enc=(l.flatMap enc).set (i*sz+j) u
 |[],i,j,x,x',u,h,_,_=>by simp at h
 |y::l,0,j,x,x',u,h,hj,hx=>by
  obtain rfl:y=x:=by simpa using h
  simp only[List.set_cons_zero,List.flatMap_cons,Nat.zero_mul,Nat.zero_add];rw[hx,List.set_append_left _ _ (by rw[he];exact hj)]
 |y::l,i+1,j,x,x',u,h,hj,hx=>by
  simp only[List.set_cons_succ,List.flatMap_cons];have e1:(i+1)*sz+j=(enc y).length+(i*sz+j):=by rw[he,Nat.succ_mul];omega
  rw[Ez he l i j x x' u (by simpa using h) hj hx,e1,List.set_append_right _ _ (by omega)]
  congr 2
  omega
theorem Own.put (he:∀x,(enc x).length=sz) {q:ai} {l:List α} {w:World} (h:Own enc T sz base q l w) {i j:Nat} {x x':α} {u:Value} (hi:l[i]?=some x) (hj:j<sz) (hx:enc x'=(enc x).set j u):
 ∃g,q.a=some ⟨g,0,none⟩/\base<=g/\g<w.heap.size/\w.cell? ⟨g,i*sz+j,none⟩=(enc x)[j]?/\w.frozen? ⟨g,i*sz+j,none⟩=false/\Own enc T sz base q (l.set i x') (w.setCell ⟨g,i*sz+j,none⟩ u)/\Fr (fun k=>k=g) w (w.setCell ⟨g,i*sz+j,none⟩ u):=by
 have hil:=(List.getElem?_eq_some_iff.1 hi).1;have hsl:=h.sl he;obtain⟨qa,qn,qc⟩:=q;have hn:=h.n;simp only at hn;subst hn;rcases h.row.2 with⟨e,h0⟩|⟨g,cap,cur,e,h1,h2,h3,h4,h5,h6⟩
 ·omega
 simp only[ai.v,Value.slice.injEq] at e;obtain⟨rfl,_,rfl⟩:=e;have hlt:=h.lt (b:=g) rfl;have hst:=h.row.stored (g:=g) (i*sz+j) u;have hfj:i*sz+j<l.length*sz:=by
  have:(i+1)*sz<=l.length*sz:=Nat.mul_le_mul_right sz hil;rw[Nat.succ_mul] at this;omega
 refine⟨g,rfl,hlt.1,hlt.2,?_,h.row.frozenAt _,⟨by simp,?_⟩,(Fr.refl (fun k=>k=g) w).setCell (p:=⟨g,i*sz+j,none⟩) (.inl rfl) u⟩
 ·rw[h.row.cellAt _ hfj];have hk:∃u',(enc x)[j]?=some u':=⟨_,List.getElem?_eq_getElem (by rw[he];exact hj)⟩
  obtain⟨u',hu'⟩:=hk;rw[hu'];exact flat_get enc sz he l i x j u' hi hu'
 ·rw[Ez he l i j x x' u hi hj hx,List.length_set];exact hst.1
def ai.ob (q:ai):Option Nat:=if q.c=0 then none else q.v.ownBlock
theorem xO {q:ai} (h:q.c≠0):q.ob=q.v.ownBlock:=if_neg h
theorem mY {q:ai} {b:Nat} (h:q.ob=some b):q.c≠0/\q.v.ownBlock=some b:=by
 unfold ai.ob at h;split at h
 ·cases h
 ·rename_i h1;exact⟨h1,h⟩
theorem qJ (a:Option Addr) (n k c:Nat):(⟨a,n,c⟩:ai).ob=(⟨a,k,c⟩:ai).ob:=by
 unfold ai.ob;cases a<;>rfl
structure fF (enc:α->List Value) (T sz base:Nat) (q:ai) (l:List α) (w:World):Prop where
 n:q.n=l.length
 row:(q.c≠0/\w.ownsRow base T sz q.v l.length (l.flatMap enc))\/(q.c=0/\l=[])
theorem Own.le {q:ai} {l:List α} {w:World} (h:Own enc T sz base q l w):q.n<=q.c:=by
 rcases h.row.2 with⟨e,_⟩|⟨g,cap,cur,e,_,_,h2,_⟩
 ·simp only[ai.v,Value.slice.injEq] at e;omega
 ·simp only[ai.v,Value.slice.injEq] at e;have:=h.n;omega
theorem Own.WW {q:ai} {l:List α} {w:World} (h:Own enc T sz base q l w):fF enc T sz base q l w:=by
 by_cases hc:q.c=0
 ·exact⟨h.n,.inr ⟨hc,List.length_eq_zero_iff.1 (by have:=h.le;have:=h.n;omega)⟩⟩
 ·exact⟨h.n,.inl ⟨hc,h.row⟩⟩
theorem fF.own {q:ai} {l:List α} {w:World} (h:fF enc T sz base q l w) (hc:q.c≠0):Own enc T sz base q l w:=⟨h.n,by
 rcases h.row with h1|h1
 ·exact h1.2
 ·exact absurd h1.1 hc⟩
theorem fF.le {q:ai} {l:List α} {w:World} (h:fF enc T sz base q l w):q.n<=q.c:=by
 by_cases hc:q.c=0
 ·rcases h.row with h1|h1
  ·exact absurd hc h1.1
  ·have:=h.n;rw[h1.2] at this;simp at this;omega
 ·exact(h.own hc).le
theorem fF.pos {q:ai} {l:List α} {w:World} (h:fF enc T sz base q l w) (hl:0<l.length):q.c≠0:=by
 have:=h.le;have:=h.n;omega
theorem fF.nil (enc:α->List Value) (T sz base:Nat) (w:World):fF enc T sz base aN [] w:=⟨rfl,.inr ⟨rfl,rfl⟩⟩
theorem fF.sl (he:∀x,(enc x).length=sz) {q:ai} {l:List α} {w:World} (h:fF enc T sz base q l w):Sl enc sz w q.v l:=by
 by_cases hc:q.c=0
 ·rcases h.row with h1|h1
  ·exact absurd hc h1.1
  ·have hn:=h.n;obtain⟨a,n,c⟩:=q;simp only at hn;rw[h1.2] at hn⊢;exact⟨a,c,by rw[hn],by unfold maxLen;simp,fun i x e=>by simp at e⟩
 ·exact(h.own hc).sl he
theorem fF.fr {q:ai} {l:List α} {w w':World} {S:Nat->Prop} (h:fF enc T sz base q l w) (hf:Fr S w w') (hs:∀b,q.ob=some b->¬S b):fF enc T sz base q l w':=by
 refine⟨h.n,?_⟩
 rcases h.row with h1|h1
 ·exact .inl ⟨h1.1,aI h1.2 hf (fun b e=>hs b ((xO h1.1).trans e))⟩
 ·exact .inr h1
theorem fF.new {q:ai} {l:List α} {w w':World} (h:fF enc T sz base q l w) (hf:Fr nothing w w'):fF enc T sz base q l w':=h.fr hf (fun _ _=>id)
theorem fF.lt {q:ai} {l:List α} {w:World} (h:fF enc T sz base q l w) {b:Nat} (hb:q.ob=some b):base<=b/\b<w.heap.size:=(h.own (mY hb).1).lt (mY hb).2
theorem fF.obs {q:ai} {l:List α} {w:World} {g:Nat} (h:fF enc T sz base q l w) (hl:0<l.length) (ha:q.a=some ⟨g,0,none⟩):q.ob=some g:=by
 rw[xO (h.pos hl)];obtain⟨a,n,c⟩:=q;simp only at ha;subst ha;rfl
theorem fF.cut (he:∀x,(enc x).length=sz) {q:ai} {l:List α} {w:World} (h:fF enc T sz base q l w) (k:Nat) (hk:k<=l.length):fF enc T sz base ⟨q.a,k,q.c⟩ (l.take k) w:=by
 by_cases hc:q.c=0
 ·rcases h.row with h1|h1
  ·exact absurd hc h1.1
  ·rw[h1.2] at hk⊢;exact⟨by simpa using hk,.inr ⟨hc,by simp⟩⟩
 ·exact((h.own hc).cut he k hk).WW
theorem fF.put (he:∀x,(enc x).length=sz) {q:ai} {l:List α} {w:World} (h:fF enc T sz base q l w) {i j:Nat} {x x':α} {u:Value} (hi:l[i]?=some x) (hj:j<sz) (hx:enc x'=(enc x).set j u):
 ∃g,q.a=some ⟨g,0,none⟩/\base<=g/\g<w.heap.size/\w.cell? ⟨g,i*sz+j,none⟩=(enc x)[j]?/\w.frozen? ⟨g,i*sz+j,none⟩=false/\fF enc T sz base q (l.set i x') (w.setCell ⟨g,i*sz+j,none⟩ u)/\Fr (fun k=>k=g) w (w.setCell ⟨g,i*sz+j,none⟩ u):=by
 have hl:=(List.getElem?_eq_some_iff.1 hi).1;obtain⟨g,h1,h2,h3,h4,h5,h6,h7⟩:=(h.own (h.pos (by omega))).put he hi hj hx;exact⟨g,h1,h2,h3,h4,h5,h6.WW,h7⟩
theorem fF.app {Ts bytes:Nat} {z:Value} (hu:Tryz.prog.underlying Ts=some (.slice T)) (Au:(Tryz.prog.info? T).map (fun i=>(i.zero,i.size,i.bytes))=some (some z,sz,bytes)) (hzs:z.cells.size=sz) (hsz:0<sz) (he:∀x,(enc x).length=sz) (h1:∀x,∀u∈enc x,u.oneCell'=true)
 {q x:ai} {xs ys:List α} {w:World} (h:fF enc T sz base q xs w) (hs:Sl enc sz w x.v ys) (hb:base<=w.heap.size) (hl:xs.length+ys.length<=maxLen) (hby:(xs.length+ys.length)*bytes<=140737488355328):
 ∃(q':ai) (w':World),(Builtin.append_ #[Ts,Ts] Ts #[.slice q.a q.n q.c,.slice x.a x.n x.c]).run Tryz.prog w=.ok (.slice q'.a q'.n q'.c) w'/\fF enc T sz base q' (xs++ys) w'/\Fr (fun k=>q.ob=some k) w w'/\(∀b,q'.ob=some b->q.ob=some b\/w.heap.size<=b):=by
 by_cases hc:q.c=0
 case neg=>
  obtain⟨q',w',k1,k2,k3,k4⟩:=Own.app hu Au hzs hsz he h1 (h.own hc) hs hb hl hby;exact⟨q',w',k1,k2.WW,k3.mono (fun k _ e=>(xO hc).trans e),fun b e=>(k4 b (mY e).2).imp (fun e=>(xO hc).trans e) id⟩
 have hx0:xs=[]:=by
  rcases h.row with e|e
  ·exact absurd hc e.1
  ·exact e.2
 have hn:=h.n;subst hx0;obtain⟨qa,qn,qc⟩:=q;simp only[List.length_nil] at hc hn;subst hc hn;obtain⟨j0,hj0,hy0,hy1,hy2⟩:=info_parts Au;obtain⟨hn,hm⟩:=ay hs;obtain⟨xa,xn,xc⟩:=x;simp only at hn;subst hn;rcases Nat.eq_zero_or_pos ys.length with h0|hp
 ·have e:ys=[]:=List.length_eq_zero_iff.1 h0;subst e;have hsrc:Src Tryz.prog j0.size Ts (.slice xa 0 xc) 0 [] w:=by
   cases xa with
   |none=>exact Src.ofNil w hu xc
   |some ad=>exact Src.ofSlice w hu ad 0 xc [] (by simp) (by simp) (by simp)
  exact⟨⟨qa,0,0⟩,w,run_append_nothing w Ts Ts Ts T j0 hu hj0 qa 0 0 (Nat.le_refl _) (.slice xa 0 xc) hsrc,⟨rfl,.inr ⟨rfl,rfl⟩⟩,Fr.refl _ _,fun b hb=> .inl hb⟩
 cases qa with
 |none=>
  obtain⟨q',w',k1,k2,k3,k4⟩:=Own.app hu Au hzs hsz he h1 (Own.nil enc T sz base w) hs hb hl hby;exact⟨q',w',k1,k2.WW,k3.mono (fun k _ e=>(by cases e)),fun b e=>(k4 b (mY e).2).imp (fun e=>(by cases e)) id⟩
 |some qad=>
  have hfl:(ys.flatMap enc).length=ys.length*sz:=bK enc sz he ys;have hget:=uz he hsz hs;have hpos:0<(ys.flatMap enc).length:=by rw[hfl];exact Nat.mul_pos hp hsz
  obtain⟨ad,rfl,_⟩:=hget 0 _ (List.getElem?_eq_getElem hpos);simp only[List.length_nil,Nat.zero_add] at hl hby;obtain⟨v',w',hr,h2,h3⟩:=run_append_arg_grows (P:=Tryz.prog) w Ts Ts T j0 _ sz bytes hu hj0 hy0 hy1 hy2 hzs hsz qad 0 0 [] (by simp) (fun j u e=>by simp at e) ad ys.length xc (ys.flatMap enc) hfl (fun j u hj=>by
   obtain⟨WQ,e1,e2⟩:=hget j u hj;obtain rfl:ad=WQ:=by simpa using e1
   exact e2) (by omega) (by simpa using hl) (by simpa using hby)
  rw[Nat.zero_add,List.nil_append] at h2;obtain⟨g,cap,rfl,hg1,hg2⟩:=h2.form hp;refine⟨⟨some ⟨g,0,none⟩,ys.length,cap⟩,w',by simpa using hr,Own.WW (w:=w') ⟨by simp,?_⟩,(Fr.refl _ w).grown h3 (fun k hk=>by cases hk),fun b hb'=>?_⟩
  ·simp only[List.nil_append];exact⟨h2.1,by
    rcases h2.2 with e|⟨g',cap',cur,e,e2,e3⟩
    ·exact .inl e
    ·exact .inr ⟨g',cap',cur,e,Nat.le_trans hb e2,e3⟩⟩
  ·obtain rfl:g=b:=Option.some.inj (mY hb').2;exact .inr hg1
end
end
end Go.Proofs.YtbcadjgpcfmkfaaGreatDoor
