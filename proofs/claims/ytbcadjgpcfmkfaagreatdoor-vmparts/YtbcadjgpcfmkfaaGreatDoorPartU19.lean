/- MStep; MOwn0. -/
import Derived.Test.YtbcadjgpcfmkfaaGreatDoorPartU18
import Derived.Test.YtbcadjgpcfmkfaaGreatDoorPartU1
import Derived.Test.YtbcadjgpcfmkfaaGreatDoorPartU16
set_option maxHeartbeats 0
set_option maxRecDepth 100000
set_option linter.unusedSimpArgs false
namespace Go.Proofs.YtbcadjgpcfmkfaaGreatDoor
open Go Go.RowKit
section
def VK (base mb:Nat) (x:Fx) (S:Nat->Prop) (w:World) (r:Ag×Ev) (e:Ending) (w':World):Prop:=
 e=.returned (je r.2)/\((∃m' qf qh rp r',m'.ag=r.1/\Mt base mb x qf qh rp r' m' w'/\∀k,Ob qf qh rp r' k->S k\/w.heap.size<=k)\/(∃qf qh,Mz base mb x qf qh r.1 w'/\∀k,qh.ob=some k->S k))/\Fr (fun k=>S k\/k=mb) w w'
theorem MR.q {base mb:Nat} {x:Fx} {S:Nat->Prop} {w w':World} {m':Mc} {ev:Ev} {e:Ending} {r:Ag×Ev} (h:MR base mb x S w m' ev e w') (ha:m'.ag=r.1) (he:ev=r.2):VK base mb x S w r e w':=by
 obtain⟨h1,⟨a,b,c,d,h2,h3⟩,h4⟩:=h;exact⟨by rw[<-he];exact h1,.inl ⟨m',a,b,c,d,ha,h2,h3⟩,h4⟩
theorem Pe {α:Type} {l:List α} (h:(l.length:Int)=0):l=[]:=List.length_eq_zero_iff.1 (by omega)
theorem Dl {α:Type} {l:List α} (h:(l.length:Int)=1):∃a,l=[a]:=by
 match l,h with
 |[a],_=>exact⟨a,rfl⟩
 |a::b::c,h=>simp at h;omega
theorem TQ {α:Type} {l:List α} (h:(l.length:Int)=2):∃a b,l=[a,b]:=by
 match l,h with
 |[a,b],_=>exact⟨a,b,rfl⟩
 |[a],h=>simp at h
 |a::b::c::d,h=>simp at h;omega
theorem eH (m':Mc) (a':Ag) (f':Fm) (h0:a'.fr.dropLast=m'.pre) (hf:m'.f=f') (h1:m'.id=a'.id) (h2:m'.bu=a'.bu) (h3:m'.pg=a'.pg) (h4:m'.hp=a'.hp) (h5:m'.fuel=a'.fuel) (h6:m'.cells=a'.cells) (h7:m'.hops=a'.hops):m'.ag=bI a' f':=by
 unfold bI Mc.ag;rw[h0,hf,h1,h2,h3,h4,h5,h6,h7]
theorem Pf {t:Bs} (h:isWord t=true):t.length<=12:=by
 unfold isWord at h;simp at h
 omega
theorem Xq (i:In) (h:i.op≠17):(aC i).1<=4:=by
 unfold aC;rw[if_neg h];cases hg:mU.find? (fun p=>p.1==i.op) with
 |none=>decide
 |some y=>
  have hall:∀y∈mU,y.2.1<=4:=by decide
  exact hall y (List.mem_of_find?_eq_some hg)
theorem qP (c:Cz) (n:Nat):bN c n<=16:=by
 unfold bN;rw[List.getD_eq_getElem?_getD];cases hg:(aj c.ins).1[n]? with
 |none=>simp
 |some y=>exact(jF c.ins y (List.mem_of_getElem? hg)).2
theorem eO {fn YX at2:Int} {vs s1 s2:List Val} (h1:YX=at2) (h2:s1=s2):(⟨fn,YX,vs,s1⟩:Fm)=⟨fn,at2,vs,s2⟩:=by rw[h1,h2]
theorem gU {p:Pz} (h:aU p=0) {c:Cz} (hc:c∈p.cs):0<=c.np/\c.np<=4/\c.np<=c.nv/\c.nv<=8/\c.ins.length<=200:=by
 unfold aU at h;split at h
 ·rename_i h1;exact absurd h h1
 rename_i h1
 have:=(iR (Classical.not_not.1 h1)).2.2.2.2.2 c hc;omega
theorem Im {p:Pz} (h:aU p=0):∀t∈p.ws,isWord t=true:=by
 unfold aU at h;split at h
 ·rename_i h1;exact absurd h h1
 rename_i h1
 exact(iR (Classical.not_not.1 h1)).2.2.2.1
theorem BM {n:Int} {v:Val} (h:ah n v=0):(v.k=1->v.t.length<=60)/\(v.k=0->-1073741824<=v.n/\v.n<=1073741824):=by
 unfold ah at h;constructor
 ·intro hk;rw[hk,if_neg (by decide),if_pos rfl] at h;split at h
  ·cases h
  ·omega
 ·intro hk;rw[hk,if_pos rfl] at h;split at h
  ·cases h
  ·omega
section
variable {base mb : Nat} {x : Fx} {qf qh : ai} {rp : List aQ} {r : aQ} {m : Mc} {w : World}
theorem Ph (h:Mt base mb x qf qh rp r m w) (hR:dx m.ag false=0) (hf:m.fuel≠0) (hP:∀w',Fr (fun k=>Ob qf qh rp r k\/k=mb) w w'->iq w' x.sc x.sw m.pg) (ht:∀w',Fr (fun k=>Ob qf qh rp r k\/k=mb) w w'->Cl.rC w') (sp:Sp) (hnm:x.nm=sp.name) (hnl:sp.name.length<=1000000) (hfs:∀w',Fr (fun k=>Ob qf qh rp r k\/k=mb) w w'->Sl kF 4 w' x.cu.v sp.facts):
 Calls Tryz.prog 18 #[.pointer (some ⟨mb,0,none⟩)] w (VK base mb x (Ob qf qh rp r) w (jS fZ m.ag sp)):=by
 obtain⟨pre,f,c,st,xx,A,e⟩:=Vz (sh:=fZ) (s:=sp) hR hf;rw[e];clear e;have hpf:=A.R.fr;obtain⟨hpre,hff⟩:=List.append_inj' (show m.pre++ [m.f]=pre++ [f] from hpf) rfl;obtain rfl:m.f=f:=by simpa using hff
 obtain rfl:m.pre=pre:=hpre;obtain⟨i,hie⟩:∃i,uA m.ag m.f=i:=⟨_,rfl⟩
 rw[hie] at A⊢;clear hie hff hpf;obtain⟨op,ia,ib⟩:=i;have V:=A.V;have hbd:=gU A.R.pg A.cm;obtain⟨fk,hfn⟩:=Int.eq_ofNat_of_zero_le V.fn;obtain⟨ak,hat⟩:=Int.eq_ofNat_of_zero_le V.OB;have hc:m.pg.cs[fk]?=some c:=by have:=V.cd;rw[hfn] at this;exact this
 have hal:ak<c.ins.length:=by have:=V.YX;omega
 have hi:c.ins[ak]?=some ⟨op,ia,ib⟩:=by
  have h1:=A.ie;rw[hat] at h1;rw[List.getElem?_eq_getElem hal,h1];simp[List.getD_eq_getElem?_getD,List.getElem?_eq_getElem hal]
 have hga:(ak:Int)+1=m.f.at_+1:=by rw[hat]
 have hak:ak<=100000:=by omega
 have hcv:=bB.1 A.R.ct;have hfu:1<=m.fuel/\m.fuel<=1000000:=⟨A.fu,by have:=hcv.2.1.2.1;have h2:m.fuel<=2000:=this;omega⟩
 have hfl:=A.YZ;have hl:rp.length<=1000:=by have:=h.lp;omega
 have hsx:=A.sx;have hle:=A.le;have hsh:=lV ⟨op,ia,ib⟩;have hs:st.length<=1000:=by omega
 have hin:=sj A.inn;simp only at hin;have hpl:m.hp.length<=1000:=by have h1:=hcv.2.2.2;have h2:=hcv.2.1.2.2.1;have h3:(m.hp.length:Int)+m.cells<=60:=h1;have h4:0<=m.cells:=h2;omega
 have hc0:∀c∈m.hp,cellC m.hp.length c=0:=A.R.hp
 have hvl:=A.vals;have hlx:=A.lx;have hfr:(aL m.ag).fr.dropLast=m.pre:=by show(m.pre++ [m.f]).dropLast=m.pre;simp
 have hsl:m.f.stack.length<=100000:=by
  rw[hsx,List.length_append];have h1:(xx.length:Int)<=4:=by
   rw[hlx]
   by_cases o:op=17
   ·have h2:(aC ⟨op,ia,ib⟩).1=ib:=by unfold aC;rw[if_pos o]
    rw[h2,hin.2.2.2.2];unfold bC;rw[if_pos o];unfold Me;cases hg:m.ag.pg.cs[ia.toNat]? with
    |none=>simp
    |some c'=>have:=(gU A.R.pg (List.mem_of_getElem? hg)).2.1;simpa using this
   ·exact Xq _ o
  omega
 have h19:op=1\/op=2\/op=3\/op=4\/op=5\/op=6\/op=7\/op=8\/op=9\/op=10\/op=11\/op=12\/op=13\/op=14\/op=15\/op=16\/op=17\/op=18\/op=19:=by omega
 rcases h19 with rfl|rfl|rfl|rfl|rfl|rfl|rfl|rfl|rfl|rfl|rfl|rfl|rfl|rfl|rfl|rfl|rfl|rfl|rfl
 ·have hx:=hlx.trans (congrArg Prod.fst (aH (i:=⟨1,ia,ib⟩) (k:=1) rfl (by decide) rfl));obtain rfl:=Pe hx;rw[List.append_nil] at hsx;rw[show opC fZ (aL m.ag) sp (gone m.f st) ⟨1,ia,ib⟩ []=(bI (aL m.ag) (bT (gone m.f st) (⟨0,ia,[]⟩)),dB) from rfl];exact(bH h hl hfn hat hak hc hi hfu hP (.VD hsl rfl rfl rfl)).mono (fun e w' hm=>hm.q (eH _ _ _ hfr (eO hga (by rw[hsx])) rfl rfl rfl rfl rfl rfl rfl) rfl)
 ·have hx:=hlx.trans (congrArg Prod.fst (aH (i:=⟨2,ia,ib⟩) (k:=2) rfl (by decide) rfl));obtain rfl:=Pe hx;rw[List.append_nil] at hsx;have hia:0<=ia/\ia<m.pg.ws.length:=⟨hin.2.2.1,by have h1:ia<=(m.pg.ws.length:Int)-1:=hin.2.2.2.1;omega⟩
  obtain⟨t,ht0⟩:∃t,m.pg.ws[ia.toNat]?=some t:=⟨_,List.getElem?_eq_getElem (by omega)⟩
  have htl:t.length<=1000000:=by have:=Pf (Im A.R.pg t (List.mem_of_getElem? ht0));omega
  have hgd:m.pg.ws.getD ia.toNat []=t:=by simp[List.getD_eq_getElem?_getD,ht0]
  rw[show opC fZ (aL m.ag) sp (gone m.f st) ⟨2,ia,ib⟩ []=(bI (aL m.ag) (bT (gone m.f st) (ji (m.pg.ws.getD ia.toNat []))),dB) from rfl,hgd];exact(bH h hl hfn hat hak hc hi hfu hP (.O9 hsl ht0 hia htl rfl rfl rfl)).mono (fun e w' hm=>hm.q (eH _ _ _ hfr (eO hga (by rw[hsx])) rfl rfl rfl rfl rfl rfl rfl) rfl)
 ·have hx:=hlx.trans (congrArg Prod.fst (aH (i:=⟨3,ia,ib⟩) (k:=3) rfl (by decide) rfl));obtain rfl:=Pe hx;rw[List.append_nil] at hsx;have Bw:(m.f.vars.length:Int)=c.nv:=V.vars;have hia:0<=ia/\ia<m.f.vars.length:=⟨hin.2.2.1,by have h1:ia<=c.nv-1:=hin.2.2.2.1;omega⟩
  obtain⟨y,hy⟩:∃y,m.f.vars[ia.toNat]?=some y:=⟨_,List.getElem?_eq_getElem (by omega)⟩
  have hgd:m.f.vars.getD ia.toNat v0=y:=by simp[List.getD_eq_getElem?_getD,hy]
  rw[show opC fZ (aL m.ag) sp (gone m.f st) ⟨3,ia,ib⟩ []=(bI (aL m.ag) (bT (gone m.f st) (m.f.vars.getD ia.toNat v0)),dB) from rfl,hgd];exact(bH h hl hfn hat hak hc hi hfu hP (.o_load hsl hy hia rfl rfl rfl)).mono (fun e w' hm=>hm.q (eH _ _ _ hfr (eO hga (by rw[hsx])) rfl rfl rfl rfl rfl rfl rfl) rfl)
 ·have hx:=hlx.trans (congrArg Prod.fst (aH (i:=⟨4,ia,ib⟩) (k:=4) rfl (by decide) rfl));obtain⟨v,rfl⟩:=Dl hx;have hv:=hvl.2.2 v (by simp);have Bw:(m.f.vars.length:Int)=c.nv:=V.vars;have hia:0<=ia/\ia<m.f.vars.length:=⟨hin.2.2.1,by have h1:ia<=c.nv-1:=hin.2.2.2.1;omega⟩
  obtain⟨y,hy⟩:∃y,m.f.vars[ia.toNat]?=some y:=⟨_,List.getElem?_eq_getElem (by omega)⟩
  rw[show opC fZ (aL m.ag) sp (gone m.f st) ⟨4,ia,ib⟩ [v]=(bI (aL m.ag) {gone m.f st with vars:=m.f.vars.set ia.toNat v},dB) from rfl];exact(EK h hl hfn hat hak hc hi hfu hP hsx hs hy hia).mono (fun e w' hm=>hm.q (eH _ _ _ hfr (eO hga rfl) rfl rfl rfl rfl rfl rfl rfl) rfl)
 ·have hx:=hlx.trans (congrArg Prod.fst (aH (i:=⟨5,ia,ib⟩) (k:=5) rfl (by decide) rfl));obtain⟨a,b,rfl⟩:=TQ hx;have hva:=hvl.2.2 a (by simp);have hvb:=hvl.2.2 b (by simp);rw[show opC fZ (aL m.ag) sp (gone m.f st) ⟨5,ia,ib⟩ [a,b]=(if(iN ia a b).2≠0 then(bI (aL m.ag) (gone m.f st),bQ (iN ia a b).2) else(bI (aL m.ag) (bT (gone m.f st) ((iN ia a b).1)),dB)) from rfl];refine(bH h hl hfn hat hak hc hi hfu hP (.VB hsx hs (BM hva) (BM hvb) rfl rfl rfl)).mono (fun e w' hm=>?_)
  by_cases hq:(iN ia a b).2≠0
  ·rw[if_pos hq,if_pos hq] at hm;rw[if_pos hq];exact hm.q (eH _ _ _ hfr (eO hga rfl) rfl rfl rfl rfl rfl rfl rfl) rfl
  ·rw[if_neg hq,if_neg hq] at hm;rw[if_neg hq];exact hm.q (eH _ _ _ hfr (eO hga rfl) rfl rfl rfl rfl rfl rfl rfl) rfl
 ·have hx:=hlx.trans (congrArg Prod.fst (aH (i:=⟨6,ia,ib⟩) (k:=6) rfl (by decide) rfl));obtain⟨a,b,rfl⟩:=TQ hx;have hva:=hvl.2.2 a (by simp);have hvb:=hvl.2.2 b (by simp);rw[show opC fZ (aL m.ag) sp (gone m.f st) ⟨6,ia,ib⟩ [a,b]=(if m.cells<1 then(bI (aL m.ag) (gone m.f st),bQ 13) else(bI {aL m.ag with cells:=m.cells-1,hp:=m.hp++ [⟨a,b⟩]} (bT (gone m.f st) ⟨2,m.hp.length,[]⟩),dB)) from rfl];refine(bH h hl hfn hat hak hc hi hfu hP (.O4 hsx hs (by have h1:0<=m.cells/\m.cells<=60:=⟨hcv.2.1.2.2.1,hcv.2.1.2.2.2.1⟩;omega) hpl rfl rfl rfl)).mono (fun e w' hm=>?_)
  by_cases hq:m.cells<1
  ·rw[if_pos hq,if_pos hq] at hm;rw[if_pos hq];exact hm.q (eH _ _ _ hfr (eO hga rfl) rfl rfl rfl rfl rfl rfl rfl) rfl
  ·rw[if_neg hq,if_neg hq] at hm;rw[if_neg hq];exact hm.q (eH _ _ _ hfr (eO hga rfl) rfl rfl rfl rfl rfl rfl rfl) rfl
 ·have hx:=hlx.trans (congrArg Prod.fst (aH (i:=⟨7,ia,ib⟩) (k:=7) rfl (by decide) rfl));obtain⟨v,rfl⟩:=Dl hx;have hv:=hvl.2.2 v (by simp);rw[show opC fZ (aL m.ag) sp (gone m.f st) ⟨7,ia,ib⟩ [v]=(if v.k≠2 then(bI (aL m.ag) (gone m.f st),bQ 11) else(bI (aL m.ag) (bT (gone m.f st) ((m.hp.getD v.n.toNat c0).l)),dB)) from rfl];refine(bH h hl hfn hat hak hc hi hfu hP (.KV hsx hs (fun hk=>kC hv hk) rfl rfl rfl)).mono (fun e w' hm=>?_)
  by_cases hq:v.k≠2
  ·rw[if_pos hq,if_pos hq] at hm;rw[if_pos hq];exact hm.q (eH _ _ _ hfr (eO hga rfl) rfl rfl rfl rfl rfl rfl rfl) rfl
  ·rw[if_neg hq,if_neg hq] at hm;rw[if_neg hq];exact hm.q (eH _ _ _ hfr (eO hga rfl) rfl rfl rfl rfl rfl rfl rfl) rfl
 ·have hx:=hlx.trans (congrArg Prod.fst (aH (i:=⟨8,ia,ib⟩) (k:=8) rfl (by decide) rfl));obtain⟨v,rfl⟩:=Dl hx;have hv:=hvl.2.2 v (by simp);rw[show opC fZ (aL m.ag) sp (gone m.f st) ⟨8,ia,ib⟩ [v]=(if v.k≠2 then(bI (aL m.ag) (gone m.f st),bQ 11) else(bI (aL m.ag) (bT (gone m.f st) ((m.hp.getD v.n.toNat c0).r)),dB)) from rfl];refine(bH h hl hfn hat hak hc hi hfu hP (.KW hsx hs (fun hk=>kC hv hk) rfl rfl rfl)).mono (fun e w' hm=>?_)
  by_cases hq:v.k≠2
  ·rw[if_pos hq,if_pos hq] at hm;rw[if_pos hq];exact hm.q (eH _ _ _ hfr (eO hga rfl) rfl rfl rfl rfl rfl rfl rfl) rfl
  ·rw[if_neg hq,if_neg hq] at hm;rw[if_neg hq];exact hm.q (eH _ _ _ hfr (eO hga rfl) rfl rfl rfl rfl rfl rfl rfl) rfl
 ·have hx:=hlx.trans (congrArg Prod.fst (aH (i:=⟨9,ia,ib⟩) (k:=9) rfl (by decide) rfl));obtain⟨a,b,rfl⟩:=TQ hx;have hva:=hvl.2.2 a (by simp);have hvb:=hvl.2.2 b (by simp);rw[show opC fZ (aL m.ag) sp (gone m.f st) ⟨9,ia,ib⟩ [a,b]=(if a.k≠2 then(bI (aL m.ag) (gone m.f st),bQ 11) else(bI {aL m.ag with hp:=m.hp.set a.n.toNat ⟨b,(m.hp.getD a.n.toNat c0).r⟩} (gone m.f st),dB)) from rfl];refine(bH h hl hfn hat hak hc hi hfu hP (.O6 hsx hs (fun hk=>kC hva hk) rfl rfl rfl)).mono (fun e w' hm=>?_)
  by_cases hq:a.k≠2
  ·rw[if_pos hq,if_pos hq] at hm;rw[if_pos hq];exact hm.q (eH _ _ _ hfr (eO hga rfl) rfl rfl rfl rfl rfl rfl rfl) rfl
  ·rw[if_neg hq,if_neg hq] at hm;rw[if_neg hq];exact hm.q (eH _ _ _ hfr (eO hga rfl) rfl rfl rfl rfl rfl rfl rfl) rfl
 ·have hx:=hlx.trans (congrArg Prod.fst (aH (i:=⟨10,ia,ib⟩) (k:=10) rfl (by decide) rfl));obtain⟨a,b,rfl⟩:=TQ hx;have hva:=hvl.2.2 a (by simp);have hvb:=hvl.2.2 b (by simp);rw[show opC fZ (aL m.ag) sp (gone m.f st) ⟨10,ia,ib⟩ [a,b]=(if a.k≠2 then(bI (aL m.ag) (gone m.f st),bQ 11) else(bI {aL m.ag with hp:=m.hp.set a.n.toNat ⟨(m.hp.getD a.n.toNat c0).l,b⟩} (gone m.f st),dB)) from rfl];refine(bH h hl hfn hat hak hc hi hfu hP (.KX hsx hs (fun hk=>kC hva hk) rfl rfl rfl)).mono (fun e w' hm=>?_)
  by_cases hq:a.k≠2
  ·rw[if_pos hq,if_pos hq] at hm;rw[if_pos hq];exact hm.q (eH _ _ _ hfr (eO hga rfl) rfl rfl rfl rfl rfl rfl rfl) rfl
  ·rw[if_neg hq,if_neg hq] at hm;rw[if_neg hq];exact hm.q (eH _ _ _ hfr (eO hga rfl) rfl rfl rfl rfl rfl rfl rfl) rfl
 ·have hx:=hlx.trans (congrArg Prod.fst (aH (i:=⟨11,ia,ib⟩) (k:=11) rfl (by decide) rfl));obtain⟨v,rfl⟩:=Dl hx;have hv:=hvl.2.2 v (by simp);rw[show opC fZ (aL m.ag) sp (gone m.f st) ⟨11,ia,ib⟩ [v]=(if v.k≠1 then(bI (aL m.ag) (gone m.f st),bQ 11) else(bI (aL m.ag) (bT (gone m.f st) (jk sp.facts v.t)),dB)) from rfl];refine(bH h hl hfn hat hak hc hi hfu hP (.VC hsx hs hfs rfl rfl rfl)).mono (fun e w' hm=>?_)
  by_cases hq:v.k≠1
  ·rw[if_pos hq,if_pos hq] at hm;rw[if_pos hq];exact hm.q (eH _ _ _ hfr (eO hga rfl) rfl rfl rfl rfl rfl rfl rfl) rfl
  ·rw[if_neg hq,if_neg hq] at hm;rw[if_neg hq];exact hm.q (eH _ _ _ hfr (eO hga rfl) rfl rfl rfl rfl rfl rfl rfl) rfl
 ·have hx:=hlx.trans (congrArg Prod.fst (aH (i:=⟨12,ia,ib⟩) (k:=12) rfl (by decide) rfl));obtain rfl:=Pe hx;rw[List.append_nil] at hsx;rw[show opC fZ (aL m.ag) sp (gone m.f st) ⟨12,ia,ib⟩ []=(bI (aL m.ag) (bT (gone m.f st) (ji sp.name)),dB) from rfl];rw[<-hnm];exact(bH h hl hfn hat hak hc hi hfu hP (.KZ hsl (by rw[hnm];exact hnl) rfl rfl rfl)).mono (fun e w' hm=>hm.q (eH _ _ _ hfr (eO hga (by rw[hsx])) rfl rfl rfl rfl rfl rfl rfl) rfl)
 ·have hx:=hlx.trans (congrArg Prod.fst (aH (i:=⟨13,ia,ib⟩) (k:=13) rfl (by decide) rfl));obtain⟨v,rfl⟩:=Dl hx;have hv:=hvl.2.2 v (by simp);rw[show opC fZ (aL m.ag) sp (gone m.f st) ⟨13,ia,ib⟩ [v]=(if v.k≠1 then(bI (aL m.ag) (gone m.f st),bQ 11) else if 0<m.hops then(bI {aL m.ag with hops:=m.hops-1} (gone m.f st),⟨3,v.t,0⟩) else(bI (aL m.ag) (bT (gone m.f st) (v0)),dB)) from rfl];refine(bH h hl hfn hat hak hc hi hfu hP (.KY hsx hs (by have h1:0<=m.hops/\m.hops<=12:=⟨hcv.2.1.2.2.2.2.1,hcv.2.1.2.2.2.2.2⟩;omega) rfl rfl rfl)).mono (fun e w' hm=>?_)
  by_cases hq:v.k≠1
  ·rw[if_pos hq,if_pos hq] at hm;rw[if_pos hq];exact hm.q (eH _ _ _ hfr (eO hga rfl) rfl rfl rfl rfl rfl rfl rfl) rfl
  ·rw[if_neg hq,if_neg hq] at hm;rw[if_neg hq]
   by_cases hq2:0<m.hops
   ·rw[if_pos hq2,if_pos hq2] at hm;rw[if_pos hq2];exact hm.q (eH _ _ _ hfr (eO hga rfl) rfl rfl rfl rfl rfl rfl rfl) rfl
   ·rw[if_neg hq2,if_neg hq2] at hm;rw[if_neg hq2];exact hm.q (eH _ _ _ hfr (eO hga rfl) rfl rfl rfl rfl rfl rfl rfl) rfl
 ·have hx:=hlx.trans (congrArg Prod.fst (aH (i:=⟨14,ia,ib⟩) (k:=14) rfl (by decide) rfl));obtain⟨v,rfl⟩:=Dl hx;have hv:=hvl.2.2 v (by simp);rw[show opC fZ (aL m.ag) sp (gone m.f st) ⟨14,ia,ib⟩ [v]=(bI (aL m.ag) (gone m.f st),⟨2,fZ m.hp v,0⟩) from rfl];exact(bH h hl hfn hat hak hc hi hfu hP (.VF hsx hs ht hc0 hv hpl rfl rfl rfl)).mono (fun e w' hm=>hm.q (eH _ _ _ hfr (eO hga rfl) rfl rfl rfl rfl rfl rfl rfl) rfl)
 ·have hx:=hlx.trans (congrArg Prod.fst (aH (i:=⟨15,ia,ib⟩) (k:=15) rfl (by decide) rfl));obtain rfl:=Pe hx;rw[List.append_nil] at hsx;rw[show opC fZ (aL m.ag) sp (gone m.f st) ⟨15,ia,ib⟩ []=(bI (aL m.ag) {gone m.f st with at_:=ia},dB) from rfl];exact(bH h hl hfn hat hak hc hi hfu hP (.O8 rfl rfl rfl)).mono (fun e w' hm=>hm.q (eH _ _ _ hfr (eO rfl hsx) rfl rfl rfl rfl rfl rfl rfl) rfl)
 ·have hx:=hlx.trans (congrArg Prod.fst (aH (i:=⟨16,ia,ib⟩) (k:=16) rfl (by decide) rfl));obtain⟨v,rfl⟩:=Dl hx;have hv:=hvl.2.2 v (by simp);rw[show opC fZ (aL m.ag) sp (gone m.f st) ⟨16,ia,ib⟩ [v]=(bI (aL m.ag) (if jG v v0 then{gone m.f st with at_:=ia} else gone m.f st),dB) from rfl]
  by_cases hk:v.k=0
  case neg=>
   have hsv:jG v v0=false:=by simp[jG,hk]
   rw[hsv,if_neg (by simp)];exact(bH h hl hfn hat hak hc hi hfu hP (.EG hsx hs hk rfl rfl rfl)).mono (fun e w' hm=>hm.q (eH _ _ _ hfr (eO hga rfl) rfl rfl rfl rfl rfl rfl rfl) rfl)
  by_cases hn:v.n=0
  case neg=>
   have hsv:jG v v0=false:=by simp[jG,hn]
   rw[hsv,if_neg (by simp)];exact(bH h hl hfn hat hak hc hi hfu hP (.EH hsx hs hk hn rfl rfl rfl)).mono (fun e w' hm=>hm.q (eH _ _ _ hfr (eO hga rfl) rfl rfl rfl rfl rfl rfl rfl) rfl)
  have hvt:v.t=[]:=by
   rcases qM hv with h1|h1|h1
   ·exact h1.2.2.2
   ·omega
   ·omega
  have hsv:jG v v0=true:=by simp[jG,hk,hn,hvt]
  rw[hsv,if_pos rfl];exact(bH h hl hfn hat hak hc hi hfu hP (.BL hsx hs hk hn rfl rfl rfl)).mono (fun e w' hm=>hm.q (eH _ _ _ hfr rfl rfl rfl rfl rfl rfl rfl rfl) rfl)
 ·have hsb:(aC ⟨17,ia,ib⟩).1=ib:=by unfold aC;rw[if_pos rfl]
  have hgl:0<=ia/\ia<m.pg.cs.length:=⟨hin.2.2.1,by have h1:ia<=(m.pg.cs.length:Int)-1:=hin.2.2.2.1;omega⟩;obtain⟨cg,hcg⟩:∃cg,m.pg.cs[ia.toNat]?=some cg:=⟨_,List.getElem?_eq_getElem (by omega)⟩
  have hgb:=gU A.R.pg (List.mem_of_getElem? hcg);have hib:ib=xx.length:=by rw[hlx,hsb]
  have hbn:ib=cg.np:=by
   rw[hin.2.2.2.2];unfold bC;rw[if_pos rfl];simp[Me,show m.ag.pg.cs[ia.toNat]?=some cg from hcg]
  obtain⟨gk,hgk⟩:=Int.eq_ofNat_of_zero_le hgl.1;obtain⟨n,hnv⟩:=Int.eq_ofNat_of_zero_le (show 0<=cg.nv by omega);have ab0:m.pg.cs[gk]?=some cg:=by rw[hgk] at hcg;simpa using hcg
  have hgd:(m.pg.cs.getD ia.toNat xI).nv.toNat=n:=by simp[List.getD_eq_getElem?_getD,hcg,hnv]
  have ab1:m.ag.fr.length=rp.length+1:=by show(m.pre++ [m.f]).length=_;simp[h.lp]
  rw[show opC fZ (aL m.ag) sp (gone m.f st) ⟨17,ia,ib⟩ xx=(if 12<=m.ag.fr.length then(bI (aL m.ag) {gone m.f st with stack:=st++xx},bQ 9) else({aL m.ag with fr:=m.ag.fr.dropLast++ [gone m.f st]++ [⟨ia,0,xx++List.replicate ((m.pg.cs.getD ia.toNat xI).nv.toNat-xx.length) v0,[]⟩]},dB)) from rfl,ab1,hgd];refine(bH (ib:=ib) h hl hfn hat hak hc hi hfu hP (.O7 hsx hs hgk hib (n:=n) (by omega) (by omega) ab0 hnv rfl rfl rfl)).mono (fun e w' hm=>?_)
  by_cases hq:12<=rp.length+1
  ·rw[if_pos hq,if_pos hq] at hm;rw[if_pos hq];exact hm.q (eH _ _ _ hfr (eO hga hsx) rfl rfl rfl rfl rfl rfl rfl) rfl
  ·rw[if_neg hq,if_neg hq] at hm;rw[if_neg hq];refine hm.q ?_ rfl
   have hd:m.ag.fr.dropLast=m.pre:=hfr;rw[hd];have e1:({m.f with at_:=(ak:Int)+1,stack:=st}:Fm)=gone m.f st:=eO hga rfl;show(⟨m.id,m.bu,m.pg,(m.pre++ [({m.f with at_:=(ak:Int)+1,stack:=st}:Fm)])++ [_],_,_,_,_⟩:Ag)=_
   rw[e1,hgk];rfl
 ·have hx:=hlx.trans (congrArg Prod.fst (aH (i:=⟨18,ia,ib⟩) (k:=18) rfl (by decide) rfl));obtain⟨v,rfl⟩:=Dl hx;have hv:=hvl.2.2 v (by simp);have ab2:st=[]:=A.r18 rfl;subst ab2;have hd:m.ag.fr.dropLast=m.pre:=hfr;rw[show opC fZ (aL m.ag) sp (gone m.f []) ⟨18,ia,ib⟩ [v]=(if m.ag.fr.dropLast=[] then({aL m.ag with fr:=[]},⟨4,fZ m.hp v,0⟩) else({aL m.ag with fr:=m.ag.fr.dropLast.dropLast++ [bT (m.ag.fr.dropLast.getLastD Ar) v]},dB)) from rfl,hd]
  by_cases hq:m.pre=[]
  ·rw[if_pos hq];have K3:rp=[]:=List.length_eq_zero_iff.1 (by rw[h.lp,hq];rfl)
   refine(MC h hl hfn hat hak hc hi hfu hP hsx hs ht hc0 hv hpl K3).mono ?_
   rintro e w' ⟨h1,h2,h3⟩;exact⟨h1,.inr ⟨qf,qh,h2,fun k hk=> .inr (.inl hk)⟩,h3⟩
  ·rw[if_neg hq];obtain⟨pre,gf,hpre⟩:∃pre gf,m.pre=pre++ [gf]:=⟨_,_,(List.dropLast_concat_getLast hq).symm⟩
   have hrq:rp≠ []:=fun e=>hq (List.length_eq_zero_iff.1 (by rw[<-h.lp,e];rfl));obtain⟨VG,r',K3⟩:∃VG r',rp=VG++ [r']:=⟨_,_,(List.dropLast_concat_getLast hrq).symm⟩
   have hgf:gf.stack.length<=1000:=by
    have h1:=A.R.pr;rw[hpre] at h1;obtain⟨-,h2,-⟩:=h1.less;obtain⟨c2,V2,-,h3⟩:=eZ.1 h2;have:=qP c2 gf.at_.toNat;simp at h3
    omega
   refine(bH h hl hfn hat hak hc hi hfu hP (.Pb hsx hs K3 hpre hgf rfl rfl rfl)).mono (fun e w' hm=>hm.q ?_ rfl)
   have h1:m.pre.dropLast=pre:=by rw[hpre];simp
   have h2:m.pre.getLastD Ar=gf:=by rw[hpre];simp
   rw[h1,h2];rfl
 ·have hx:=hlx.trans (congrArg Prod.fst (aH (i:=⟨19,ia,ib⟩) (k:=19) rfl (by decide) rfl));obtain⟨v,rfl⟩:=Dl hx;have hv:=hvl.2.2 v (by simp);rw[show opC fZ (aL m.ag) sp (gone m.f st) ⟨19,ia,ib⟩ [v]=(bI (aL m.ag) (gone m.f st),dB) from rfl];exact(bH h hl hfn hat hak hc hi hfu hP (.VE hsx hs rfl rfl rfl)).mono (fun e w' hm=>hm.q (eH _ _ _ hfr (eO hga rfl) rfl rfl rfl rfl rfl rfl rfl) rfl)
end
end
section
structure Io (B:Nat) (qc:ai) (rcs:List jQ) (k:Nat) (cs:List Cz) (w:World):Prop where
 row:fF bZ 79 3 B qc rcs w
 len:rcs.length=cs.length
 ins:∀i r c,i<k->rcs[i]?=some r->cs[i]?=some c->r.np=c.np/\r.nv=c.nv/\fF encI 82 3 B r.s c.ins w/\Dj qc r.s
theorem Io.fr {B:Nat} {qc:ai} {rcs:List jQ} {k:Nat} {cs:List Cz} {w w':World} {S:Nat->Prop} (h:Io B qc rcs k cs w) (hf:Fr S w w') (hS:∀b,B<=b->b<w.heap.size->¬S b):Io B qc rcs k cs w':=
 ⟨h.row.fr hf (fun b e=>hS b (h.row.lt e).1 (h.row.lt e).2),h.len,fun i r c hi e1 e2=>by
  obtain⟨a1,a2,a3,a4⟩:=h.ins i r c hi e1 e2;exact⟨a1,a2,a3.fr hf (fun b e=>hS b (a3.lt e).1 (a3.lt e).2),a4⟩⟩
theorem Io.set {B:Nat} {qc:ai} {rcs:List jQ} {k:Nat} {cs:List Cz} {w:World} (h:Io B qc rcs k cs w) {r:jQ} (hr:rcs[k]?=some r) (q':ai):
 ∃g,qc.a=some ⟨g,0,none⟩/\B<=g/\g<w.heap.size/\w.cell? ⟨g,k*3+2,none⟩=some (.slice r.s.a r.s.n r.s.c)/\w.frozen? ⟨g,k*3+2,none⟩=false/\qc.ob=some g/\Io B qc (rcs.set k {r with s:=q'}) k cs (w.setCell ⟨g,k*3+2,none⟩ (.slice q'.a q'.n q'.c))/\Fr (fun b=>b=g) w (w.setCell ⟨g,k*3+2,none⟩ (.slice q'.a q'.n q'.c)):=by
 have hk:=(List.getElem?_eq_some_iff.1 hr).1;obtain⟨g,ga,gb,gl,gc,gz,go,gf⟩:=h.row.put pU (i:=k) (j:=2) (x:=r) (x':={r with s:=q'}) (u:=.slice q'.a q'.n q'.c) hr (by decide) rfl;have dF:=h.row.obs (by omega) ga;refine⟨g,ga,gb,gl,gc,gz,dF,⟨go,by rw[List.length_set];exact h.len,fun i r c hi e1 e2=>?_⟩,gf⟩
 rw[List.getElem?_set_ne (by omega)] at e1;obtain⟨a1,a2,a3,a4⟩:=h.ins i r c hi e1 e2;exact⟨a1,a2,a3.fr gf (fun b e e2=>a4 g dF (by rw[<-e2];exact e)),a4⟩
theorem Io.close {B:Nat} {qc:ai} {rcs:List jQ} {k:Nat} {cs:List Cz} {w:World} (h:Io B qc rcs k cs w) {r:jQ} {c:Cz} (hr:rcs[k]?=some r) (hc:cs[k]?=some c) (h1:r.np=c.np) (h2:r.nv=c.nv) (h3:fF encI 82 3 B r.s c.ins w) (h4:Dj qc r.s):Io B qc rcs (k+1) cs w:=
 ⟨h.row,h.len,fun i r' c' hi e1 e2=>by
  by_cases hk:i=k
  ·subst hk;rw[hr] at e1;rw[hc] at e2;cases e1;cases e2
   exact⟨h1,h2,h3,h4⟩
  ·exact h.ins i r' c' (by omega) e1 e2⟩
theorem Io.cs {B:Nat} {qc:ai} {rcs:List jQ} {k:Nat} {cs:List Cz} {w:World} (h:Io B qc rcs k cs w) (hk:cs.length<=k):∃rs,Sl bZ 3 w qc.v rs/\Each (GQ w) rs cs:=
 ⟨rcs,h.row.sl pU,h.len,fun i r c e1 e2=>by
  have hi:=(List.getElem?_eq_some_iff.1 e2).1;obtain⟨a1,a2,a3,-⟩:=h.ins i r c (by omega) e1 e2;exact⟨a1,a2,a3.sl BH⟩⟩
structure Fw (B:Nat) (qf:ai) (rs:List aQ) (k:Nat) (fs:List Fm) (w:World):Prop where
 row:fF lU 51 4 B qf rs w
 len:rs.length=fs.length
 ep:∀i q g,i<k->rs[i]?=some q->fs[i]?=some g->Fo B q g w/\Da qf q
 AA:∀i j q q',i<k->j<k->i≠j->rs[i]?=some q->rs[j]?=some q'->Da q.v q'/\Da q.s q'
theorem Fw.fr {B:Nat} {qf:ai} {rs:List aQ} {k:Nat} {fs:List Fm} {w w':World} {S:Nat->Prop} (h:Fw B qf rs k fs w) (hf:Fr S w w') (hS:∀b,B<=b->b<w.heap.size->¬S b):Fw B qf rs k fs w':=
 ⟨h.row.fr hf (fun b e=>hS b (h.row.lt e).1 (h.row.lt e).2),h.len,fun i q g hi e1 e2=>by
  obtain⟨a1,a2⟩:=h.ep i q g hi e1 e2;exact⟨a1.fr hf (fun b e=>hS b (a1.v.lt e).1 (a1.v.lt e).2) (fun b e=>hS b (a1.s.lt e).1 (a1.s.lt e).2),a2⟩,h.AA⟩
theorem Fw.set {B:Nat} {qf:ai} {rs:List aQ} {k:Nat} {fs:List Fm} {w:World} (h:Fw B qf rs k fs w) {r r':aQ} (hr:rs[k]?=some r) {j:Nat} {u:Value} (hj:j<4) (hx:lU r'=(lU r).set j u):
 ∃g,qf.a=some ⟨g,0,none⟩/\B<=g/\g<w.heap.size/\w.cell? ⟨g,k*4+j,none⟩=(lU r)[j]?/\w.frozen? ⟨g,k*4+j,none⟩=false/\qf.ob=some g/\Fw B qf (rs.set k r') k fs (w.setCell ⟨g,k*4+j,none⟩ u)/\Fr (fun b=>b=g) w (w.setCell ⟨g,k*4+j,none⟩ u):=by
 have hk:=(List.getElem?_eq_some_iff.1 hr).1;obtain⟨g,ga,gb,gl,gc,gz,go,gf⟩:=h.row.put dA (i:=k) (j:=j) (x:=r) (x':=r') (u:=u) hr hj hx;have dF:=h.row.obs (by omega) ga;refine⟨g,ga,gb,gl,gc,gz,dF,⟨go,by rw[List.length_set];exact h.len,fun i q f hi e1 e2=>?_,fun i j q q' hi hj hij e1 e2=>?_⟩,gf⟩
 ·rw[List.getElem?_set_ne (by omega)] at e1;obtain⟨a1,a2⟩:=h.ep i q f hi e1 e2;exact⟨a1.fr gf (fun b e e2=>a2.1 g dF (by rw[<-e2];exact e)) (fun b e e2=>a2.2 g dF (by rw[<-e2];exact e)),a2⟩
 ·rw[List.getElem?_set_ne (by omega)] at e1;rw[List.getElem?_set_ne (by omega)] at e2;exact h.AA i j q q' hi hj hij e1 e2
theorem Fw.close {B:Nat} {qf:ai} {rs:List aQ} {k:Nat} {fs:List Fm} {w:World} (h:Fw B qf rs k fs w) {r:aQ} {f:Fm} (hr:rs[k]?=some r) (hc:fs[k]?=some f) (h1:Fo B r f w) (h2:Da qf r) (N:Nat) (hN:∀i q,i<k->rs[i]?=some q->(∀b,q.v.ob=some b->b<N)/\∀b,q.s.ob=some b->b<N) (hv:∀b,r.v.ob=some b->N<=b) (hs:∀b,r.s.ob=some b->N<=b):Fw B qf rs (k+1) fs w:=by
 have hA:∀i q,i<k->rs[i]?=some q->(Da r.v q/\Da r.s q)/\Da q.v r/\Da q.s r:=fun i q hi e=>by
  obtain⟨n1,n2⟩:=hN i q hi e;have d1:Dj r.v q.v:=Dj.fresh hv n1;have d2:Dj r.v q.s:=Dj.fresh hv n2;have d3:Dj r.s q.v:=Dj.fresh hs n1;have d4:Dj r.s q.s:=Dj.fresh hs n2;exact⟨⟨⟨d1,d2⟩,⟨d3,d4⟩⟩,⟨d1.symm,d3.symm⟩,⟨d2.symm,d4.symm⟩⟩
 refine⟨h.row,h.len,fun i q f' hi e1 e2=>?_,fun i j q q' hi hj hij e1 e2=>?_⟩
 ·by_cases hk:i=k
  ·subst hk;rw[hr] at e1;rw[hc] at e2;cases e1;cases e2
   exact⟨h1,h2⟩
  ·exact h.ep i q f' (by omega) e1 e2
 ·by_cases hk:i=k
  ·subst hk;rw[hr] at e1;cases e1
   exact(hA j q' (by omega) e2).1
  ·by_cases hk2:j=k
   ·subst hk2;rw[hr] at e2;cases e2
    exact(hA i q (by omega) e1).2
   ·exact h.AA i j q q' (by omega) (by omega) hij e1 e2
structure Mo (B:Nat) (qf qh:ai) (rs:List aQ) (fs:List Fm) (hp:List aV) (w:World):Prop where
 bl:B<=w.heap.size
 fw:Fw B qf rs fs.length fs w
 hp:fF jv 88 6 B qh hp w
 Bz:Dj qf qh
 Ae:∀q∈rs,Da qh q
theorem Mo.fr {B:Nat} {qf qh:ai} {rs:List aQ} {fs:List Fm} {hp:List aV} {w w':World} {S:Nat->Prop} (h:Mo B qf qh rs fs hp w) (hf:Fr S w w') (hS:∀b,B<=b->b<w.heap.size->¬S b):Mo B qf qh rs fs hp w':=
 ⟨Nat.le_trans h.bl hf.size,h.fw.fr hf hS,h.hp.fr hf (fun b e=>hS b (h.hp.lt e).1 (h.hp.lt e).2),h.Bz,h.Ae⟩
end
end Go.Proofs.YtbcadjgpcfmkfaaGreatDoor
