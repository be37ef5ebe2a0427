/- RExpr. -/
import Derived.Test.YtbcadjgpcfmkfaaGreatDoorPartU36
import Derived.Test.YtbcadjgpcfmkfaaGreatDoorPartU1
set_option maxHeartbeats 0
set_option maxRecDepth 100000
set_option linter.unusedSimpArgs false
namespace Go.Proofs.YtbcadjgpcfmkfaaGreatDoor
open Go Go.RowKit
section
structure Fy (ab:Nat) (E:Bs->Int) (nm:List Bs) (T:Nat->Prop) (w:World):Prop where
 m:∃A,SI ab A w/\∀t∈nm,(A.f t).getD 0=E t
 t:¬T ab
theorem Fy.fr {ab:Nat} {E:Bs->Int} {nm:List Bs} {T T' S:Nat->Prop} {w w':World} (h:Fy ab E nm T w) (hf:Fr S w w') (hs:¬S ab) (ht:¬T' ab):Fy ab E nm T' w':=by
 obtain⟨A,a1,a2⟩:=h.m;exact⟨⟨A,a1.fr hf hs,a2⟩,ht⟩
theorem Fy.lt {ab:Nat} {E:Bs->Int} {nm:List Bs} {T:Nat->Prop} {w:World} (h:Fy ab E nm T w):ab<w.heap.size:=by
 obtain⟨A,a1,_⟩:=h.m;exact a1.lt
def wG (c:Rk) (l:List Fn):Prop:=c.rs.length=l.length/\∀(i:Nat) (r:qH) (f:Fn),c.rs[i]?=some r->l[i]?=some f->r.t=f.t
abbrev Kb (l:List Fn):Bs->Nat->Prop:=fun t _=>∃f∈l,f.t=t
abbrev gW (l:List Fn):Bs->Int:=GL l 0 (fun _=>0)
mutual
def Ra:Ex->Prop
 |.mk k _ _ a=>1<=k/\k<=11/\Ci a
def Ci:List Ex->Prop
 |[]=>True
 |x::l=>Ra x/\Ci l
end
theorem uM:∀{l:List Ex},Ci l->∀x∈l,Ra x
 |y::l,h,x,hx=>by
  rw[Ci] at h;rcases List.mem_cons.1 hx with rfl|hx
  ·exact h.1
  ·exact uM h.2 x hx
def XP (c:Rk) (T:Nat->Prop) (w:World) (v:Nat) (R:XR) (e:Ending) (w':World):Prop:=
 ∃(q:ai) (T':Nat->Prop),e=.returned (.slice q.a q.n q.c)/\gM w.heap.size q R.ins w'/\RP c T w v R.ws T' w'/\∀b,q.v.ownBlock=some b->¬T' b
def REx (l:List Fn) (x:Ex):Prop:=∀(c:Rk) (T:Nat->Prop) (v:Nat) (ws:List Bs) (E:Bs->Int) (nm:List Bs) (ab:Nat) (r:rR) (w:World),RI c T v ws w->wG c l->Fy ab E nm T w->bF w (ap T w) r x->ZQ (Kb l) nm x->rF x<=100000->ws.length+rF x<=100000->um x->Ra x->
 Calls Tryz.prog 70 #[.pointer (some ⟨c.mb,0,none⟩),ev r,.map (some ab)] w (XP c T w v (Ad (gW l) E x ws))
theorem uN:∀(l:List Fn) (f:Fn) (i:Nat) (G:Bs->Int),GL (l++ [f]) i G=upd (GL l i G) f.t (i+l.length:Nat)
 |[],f,i,G=>rfl
 |g::l,f,i,G=>by
  rw[List.cons_append,GL,GL,uN l f (i+1) _]
  congr 1
  simp only[List.length_cons];omega
theorem Rb {c:Rk} {T T':Nat->Prop} {w wv:World} {v:Nat} {ws:List Bs} {q:ai} {is:List In} (hO:gM w.heap.size q is wv) (vP:RP c T w v ws T' wv) (hq:∀b,q.v.ownBlock=some b->¬T' b) (hfl:∀b,c.fs.v.ownBlock=some b->b<w.heap.size) (x:In) (hl:is.length<=200000):
 ∃(q2:ai) (w5:World),(Builtin.append_ #[77,77] 77 #[.slice q.a q.n q.c,.slice (some ⟨wv.heap.size,0,none⟩) 1 1]).run Tryz.prog (wv.alloc (.cells #[.int .i64 x.op,.int .i64 x.a,.int .i64 x.b] 82))=.ok (.slice q2.a q2.n q2.c) w5/\XP c T w v ⟨is++ [x],ws⟩ (.returned (.slice q2.a q2.n q2.c)) w5:=by
 have hF:Fr nothing wv (wv.alloc (.cells #[.int .i64 x.op,.int .i64 x.a,.int .i64 x.b] 82)):=(Fr.refl _ _).alloc _;obtain⟨q2,w5,hrun,Uz,jd,Yo⟩:=(hO.fr hF (fun _ _=>id)).app (x:=⟨some ⟨wv.heap.size,0,none⟩,1,1⟩) (Dx wv x) (Nat.le_trans vP.2.1.size hF.size) (by simp only[List.length_singleton];omega)
 obtain⟨k1,k2,k3⟩:=vP;refine⟨q2,w5,hrun,q2,T',rfl,Uz,⟨(k1.new hF).fr jd (fun k hk e=>hq k e hk) (fun b hb e=>?_),(k2.trans (hF.mono (fun _ _ e=>e.elim))).then jd (fun k hk e=>by have:=(hO.lt e).1;omega),k3⟩,fun b hb e=>?_⟩
 ·have h1:=(hO.lt e).1;have:=hfl b hb;omega
 ·rcases Yo b hb with h|h
  ·exact hq b h e
  ·have:=k1.tl b e;have:=hF.size;omega
theorem uO (G E:Bs->Int):∀(l:List Ex) (x:Ex) (ws:List Bs),aM G E (l++ [x]) ws=⟨(aM G E l ws).ins++(Ad G E x (aM G E l ws).ws).ins,(Ad G E x (aM G E l ws).ws).ws⟩
 |[],x,ws=>by rw[List.nil_append,jX,og,og];simp
 |y::l,x,ws=>by rw[List.cons_append,jX,jX,uO G E l x];simp
theorem tH (l:List Ex) (j:Nat) (hj:j<l.length):iJ (l.take j)+rF l[j]<=iJ l:=by
 induction l generalizing j with
 |nil=>simp at hj
 |cons x l ih=>
  cases j with
  |zero=>simp[iJ]
  |succ j=>
   have:=ih j (by simpa using hj);rw[List.take_succ_cons,iJ,iJ];simp only[List.getElem_cons_succ];omega
def qD (l:List Fn) (t:Bs) (len:Nat) (j:Nat):In:=if(l.take j).any (fun f=>decide (f.t=t)) then⟨17,gW (l.take j) t,len⟩ else⟨0,0,0⟩
theorem Rc {l:List Fn} {t:Bs} {len j:Nat} {f:Fn} (hj:j<l.length) (hf:l[j]=f) (h:f.t=t):qD l t len (j+1)=⟨17,(j:Nat),len⟩:=by
 unfold qD gW;rw[(List.take_append_getElem hj).symm,hf,uN];have hl:(l.take j).length=j:=by rw[List.length_take];omega
 simp[h,upd,hl]
theorem Re {l:List Fn} {t:Bs} {len j:Nat} {f:Fn} (hj:j<l.length) (hf:l[j]=f) (h:¬f.t=t):qD l t len (j+1)=qD l t len j:=by
 unfold qD gW;rw[(List.take_append_getElem hj).symm,hf,uN];have h':¬t=f.t:=fun e=>h e.symm;simp[h,upd,h']
theorem M0 {l:List Fn} {t:Bs} {len:Nat} (h:∃f∈l,f.t=t):qD l t len l.length=⟨17,gW l t,len⟩:=by
 unfold qD;rw[List.take_length];obtain⟨f,hf,e⟩:=h;rw[if_pos];simp only[List.any_eq_true,decide_eq_true_eq];exact⟨f,hf,e⟩
theorem Fz {ws:List Bs} {t:Bs} {k:Nat} (h:∀i (hi:i<ws.length),i<k->ws[i]≠t) (hk:(k=ws.length)\/∃h:k<ws.length,ws[k]=t):GJ ws t=k:=by
 unfold GJ
 induction ws generalizing k with
 |nil=>
  rcases hk with e|⟨h,_⟩
  ·rw[e];rfl
  ·simp at h
 |cons x l ih=>
  rw[List.idxOf_cons]
  by_cases hx:x=t
  ·have h0:k=0:=by
    rcases Nat.eq_zero_or_pos k with e|e
    ·exact e
    ·exact absurd hx (h 0 (by simp) e)
   simp[hx,h0]
  ·have hk0:k≠0:=by
    rintro rfl;rcases hk with e|⟨h1,h2⟩
    ·simp at e
    ·exact hx h2
   obtain⟨m,rfl⟩:∃m,k=m+1:=⟨k-1,by omega⟩
   have:=ih (k:=m) (fun i hi him=>by have:=h (i+1) (by simp;omega) (by omega);simpa using this) (by
    rcases hk with e|⟨h1,h2⟩
    ·left;simp at e;omega
    ·right;exact⟨by simp at h1;omega,by simpa using h2⟩)
   have hxb:(x==t)=false:=by simpa using hx
   simp[hxb,this]
theorem Kc (l:List Fn) (k n:Int) (t:Bs) (a:List Ex) (ih:∀x∈a,REx l x):REx l (.mk k n t a):=by
 intro c T v ws E nm ab r w hK hFN DX hX hU hN hW hSh Zl;rw[Ra] at Zl;obtain⟨rk,rn,rt,⟨la,ln,lc⟩⟩:=r;cases hX with
 |mk _ _ _ _ rs _ hS hP hl hE=>
 cases hSh with
 |mk hs1 hs2 hs3=>
 obtain⟨hln,hlm⟩:=ay hS;simp only at hln;rw[hl] at hln;subst hln;rw[ZQ] at hU;rw[rF] at hN hW;have hll:a.length<=9223372036854775807:=by omega
 have qL:Fr nothing w (w.alloc (eo ⟨k,n,t,⟨la,a.length,lc⟩⟩)):=(Fr.refl _ _).alloc _;have m0:=af (Fr.refl nothing (w.alloc (eo ⟨k,n,t,⟨la,a.length,lc⟩⟩))) id;have hb:¬T w.heap.size:=fun e=>by have:=hK.tl _ e;omega
 have hfl:=hK.fl;have HS:=hide hS;have HP:=hide hP;have HE:=hide (show Each (bF w (ap T w)) rs a from⟨hl,hE⟩);have dL:=hide qL;have HK:=hide hK;have HAT:=hide DX;have MJ:=hide m0;have HU:=hide hU;have ni:=hide hFN;have Un:=hide hfl;have HKD:=hide Zl;have HS1:=hide hs1;clear Zl hs1;clear hS hP hE hl qL m0 hK DX hU hFN hfl
 go_enter Tryz.func70,Tryz.ntmps70
 go_wp2
 obtain⟨w2,hw2⟩:∃w2,w2=w.alloc (eo ⟨k,n,t,⟨la,a.length,lc⟩⟩):=⟨_,rfl⟩
 rw[<-hw2] at dL MJ;rw[<-hw2];clear hw2;obtain⟨bx,hbx⟩:∃x,x=w.heap.size:=⟨_,rfl⟩
 rw[<-hbx] at MJ hb;rw[<-hbx];have HBX:=hide hbx;clear hbx
 go_loopw [17,7,9] (fun i o _ wr=>∃(j:Nat) (q:ai),j<=a.length/\i=.int .i64 j/\o=.slice q.a q.n q.c/\Hid (∃T',gM w.heap.size q (aM (gW l) E (a.take j) ws).ins wr/\RP c T w v (aM (gW l) E (a.take j) ws).ws T' wr/\(∀b,q.v.ownBlock=some b->¬T' b/\b≠bx)/\¬T' bx/\bx<wr.heap.size/\(∀i,wr.cell? ⟨bx,i,none⟩=w2.cell? ⟨bx,i,none⟩))) (fun i _ _ _=>a.length-(intOf i).toNat)
 case atStart=>exact⟨0,aN,Nat.zero_le _,rfl,rfl,T,gM.nil _ _,.J9 HK.out dL.out,fun b hb=>(by cases hb),hb,MJ.out.2.2,fun _=>rfl⟩
 case round=>
  obtain⟨j,q,hj,rfl,rfl,hR⟩:=hrel
  by_cases hjl:j<a.length
  ·have hx:a[j]?=some a[j]:=List.getElem?_eq_getElem hjl;have hr:rs[j]?=some (rs[j]'(by rw[HE.out.1];omega)):=List.getElem?_eq_getElem _
   have hxm:a[j]∈a:=List.getElem_mem hjl;have htk:a.take (j+1)=a.take j++ [a[j]]:=(List.take_append_getElem hjl).symm;have htn:=tH a j hjl;generalize rs[j]'(by rw[HE.out.1];omega)=r at hr
   generalize a[j]=x at hx hxm htk htn;have hok:=HE.out.2 j r x hr hx;obtain⟨g,o,hg,-,dg,p0,p1,p2,p3⟩:=tC (s:=⟨la,a.length,lc⟩) HS.out hr;simp only at hg;subst hg;obtain⟨T',hO,⟨k1,k2,k3⟩,hq,hbT,hbl,hbc⟩:=hR.out;have hgT:=(HP.out g rfl).1;rw[<-k2.cell (p:=⟨g,_,none⟩) dg hgT] at p0 p1 p2 p3;have eg:g<wr.heap.size:=Nat.lt_of_lt_of_le dg k2.size;have jf:Fr nothing wr (wr.alloc (eo r)):=(Fr.refl _ _).alloc _;have hok2:bF (wr.alloc (eo r)) (ap T' (wr.alloc (eo r))) r x:=av _ _ nothing _ _ _ _ (av _ _ T _ _ _ _ hok k2 (fun k hk=>hk.1) (Lj k2 k3)) jf (fun _ _=>id) (fun k hk=>⟨hk.1,Nat.lt_of_lt_of_le hk.2 jf.size⟩);have hab:¬T' ab:=fun e=>(k3 _ e).elim HAT.out.t (fun h=>by have:=HAT.out.lt;omega)
   have aaX:Fy ab E nm T' (wr.alloc (eo r)):=(HAT.out.fr k2 HAT.out.t hab).fr jf id hab;have hwl:=mR (gW l) E (a.take j) ws;have Yt:=hide (ih x hxm c T' v (aM (gW l) E (a.take j) ws).ws E nm ab r (wr.alloc (eo r)) (k1.new jf) ni.out aaX hok2 (xE HU.out.2.2 x hxm) (by omega) (by omega) (hs3 x hxm) (uM HKD.out.2.2 x hxm));have nH:=hide (fun(q2:ai) (T2:Nat->Prop) w3 (hO3:gM (wr.alloc (eo r)).heap.size q2 (Ad (gW l) E x (aM (gW l) E (a.take j) ws).ws).ins w3) (fE:RP c T' (wr.alloc (eo r)) v (Ad (gW l) E x (aM (gW l) E (a.take j) ws).ws).ws T2 w3) (hq3:∀b,q2.v.ownBlock=some b->¬T2 b)=>(show∃q4 w4,(Builtin.append_ #[77,77] 77 #[.slice q.a q.n q.c,.slice q2.a q2.n q2.c]).run Tryz.prog w3=.ok (.slice q4.a q4.n q4.c) w4/\∃T',gM w.heap.size q4 (aM (gW l) E (a.take (j+1)) ws).ins w4/\RP c T w v (aM (gW l) E (a.take (j+1)) ws).ws T' w4/\(∀b,q4.v.ownBlock=some b->¬T' b/\b≠bx)/\¬T' bx/\bx<w4.heap.size/\(∀i,w4.cell? ⟨bx,i,none⟩=w2.cell? ⟨bx,i,none⟩) from by
    obtain⟨c1,c2,c3⟩:=fE;have hqT:∀b,q.v.ownBlock=some b->¬T2 b:=fun b hb e=>(c3 b e).elim (hq b hb).1 (fun h=>by have:=(hO.lt hb).2;have:=jf.size;omega)
    have acE:=(hO.fr jf (fun _ _=>id)).fr c2 (fun b hb e=>(hq b hb).1 e);have hl1:=ko (gW l) E (a.take j) ws;have hl2:=CW (gW l) E x (aM (gW l) E (a.take j) ws).ws;obtain⟨q4,w4,hrun,Rf,jW,Yu⟩:=acE.app (x:=q2) hO3.sl (Nat.le_trans (Nat.le_trans k2.size jf.size) c2.size) (by omega);have eR:=uO (gW l) E (a.take j) x ws;have OQ:wr.heap.size<=w3.heap.size:=Nat.le_trans jf.size c2.size;have acF:¬T2 bx:=fun e=>(c3 _ e).elim hbT (fun h=>by have:=jf.size;omega)
    have hbq:¬q.v.ownBlock=some bx:=fun e=>(hq _ e).2 rfl;refine⟨q4,w4,hrun,T2,by rw[htk,eR];exact Rf,?_,?_,acF,Nat.lt_of_lt_of_le (Nat.lt_of_lt_of_le hbl OQ) jW.size,fun i=>?_⟩
    ·rw[htk,eR];refine⟨c1.fr jW (fun k hk e=>hqT k e hk) (fun b hb e=>by have:=Un.out b hb;have:=(hO.lt e).1;omega),((k2.trans (jf.mono (fun _ _ e=>e.elim))).then c2 (fun k hk e=>(k3 k e).elim id (fun h=>by omega))).then jW (fun k hk e=>by have:=(hO.lt e).1;omega),fun k hk=>?_⟩
     rcases c3 k hk with h|h
     ·exact k3 k h
     ·exact .inr (Nat.le_trans k2.size (Nat.le_trans jf.size h))
    ·intro b hb;rcases Yu b hb with h|h
     ·exact⟨hqT b h,(hq b h).2⟩
     ·exact⟨fun e=>by have:=c1.tl b e;omega,by omega⟩
    ·rw[jW.cell (p:=⟨bx,i,none⟩) (Nat.lt_of_lt_of_le hbl OQ) hbq,c2.cell (p:=⟨bx,i,none⟩) (Nat.lt_of_lt_of_le hbl jf.size) hbT,jf.cell (p:=⟨bx,i,none⟩) hbl id];exact hbc i))
   clear hR hO k1 k2 k3 hq hbT hbl hbc jf hok hok2 hab aaX hr hx;obtain⟨rk',rn',rt',rs4⟩:=r;simp only at p0 p1 p2 p3
   go_wp2_with (first
    |(at_builtin;go_must (obtain⟨q4,w4,hrun,h4⟩:=nH.out q2 T2 w3 VM.out HR3.out HQ3.out);refine aD rfl _ _ 77 rfl _ _ rfl rfl hrun ?_;have H4:=hide h4;clear hrun h4)
    |(go_at_call 70;refine Yt.out.mono ?_;rintro e w3 ⟨q2,T2,rfl,hO3,fE,hq3⟩;have VM:=hide hO3;have HR3:=hide fE;have HQ3:=hide hq3;clear hO3 fE hq3))
   go_roundw
   case rel=>exact⟨j+1,q4,by omega,by go_num,rfl,H4.out⟩
   case measure=>simp[intOf];omega
  ·have vX:j=a.length:=by omega
   obtain⟨T',hO,vP,hq,hbT,hbl,hbc⟩:=hR.out;rw[vX,List.take_length] at hO vP;have z0:=(hbc 0).trans (MJ.out.1 0);have z1:=(hbc 1).trans (MJ.out.1 1);have z2:=(hbc 2).trans (MJ.out.1 2);have z3:=(hbc 3).trans (MJ.out.1 3);have MO:(aM (gW l) E a ws).ins.length<=200000:=by rw[ko];omega
   have aaY:=mR (gW l) E a ws;have hab:¬T' ab:=fun e=>(vP.2.2 _ e).elim HAT.out.t (fun h=>by have:=HAT.out.lt;omega)
   have DX:=HAT.out.fr vP.2.1 HAT.out.t hab;obtain⟨R,hRR⟩:∃R,R=aM (gW l) E a ws:=⟨_,rfl⟩
   have Wi:Hid (Ad (gW l) E (.mk k n t a) ws=⟨R.ins++ [qm (gW l) E k n t a.length R.ws],uY k t R.ws⟩):=by show Ad _ _ _ _=_;rw[CV,hRR]
   rw[<-hRR] at hO vP MO aaY;clear hRR;have uF:=hide (fun wv (hf:Fr nothing wr wv) (x:In)=>Rb (hO.fr hf (fun _ _=>id)) (show RP c T w v R.ws T' wv from⟨vP.1.new hf,vP.2.1.trans (hf.mono (fun _ _ e=>e.elim)),vP.2.2⟩) (fun b hb=>(hq b hb).1) Un.out x MO)
   by_cases k1:k=1
   ·subst k1;obtain⟨q2,w5,hrun,Cj⟩:=uF.out (wr.alloc (.cells #[.int .i64 1,.int .i64 n,.int .i64 0] 82)) ((Fr.refl _ _).alloc _) ⟨1,n,0⟩;have M4:=hide Cj;have sA:(wr.alloc (.cells #[.int .i64 1,.int .i64 n,.int .i64 0] 82)).heap.size=wr.heap.size+1:=by simp
    rw[sA] at hrun;clear hR hO vP hq hbc hab DX Cj sA vX
    go_wp2_with (at_builtin;go_must (refine aD rfl _ _ 77 rfl _ _ rfl rfl hrun ?_))
    go_ret
    rw[Wi.out];exact M4.out
   by_cases k4:k=4
   ·subst k4;obtain⟨q2,w5,hrun,Cj⟩:=uF.out (wr.alloc (.cells #[.int .i64 5,.int .i64 n,.int .i64 0] 82)) ((Fr.refl _ _).alloc _) ⟨5,n,0⟩;have M4:=hide Cj;have sA:(wr.alloc (.cells #[.int .i64 5,.int .i64 n,.int .i64 0] 82)).heap.size=wr.heap.size+1:=by simp
    rw[sA] at hrun;clear hR hO vP hq hbc hab DX Cj sA vX k1
    go_wp2_with (at_builtin;go_must (refine aD rfl _ _ 77 rfl _ _ rfl rfl hrun ?_))
    go_ret
    rw[Wi.out];exact M4.out
   by_cases k3:k=3
   ·subst k3;obtain⟨q2,w5,hrun,Cj⟩:=uF.out (wr.alloc (.cells #[.int .i64 3,.int .i64 (E t),.int .i64 0] 82)) ((Fr.refl _ _).alloc _) ⟨3,E t,0⟩;have M4:=hide Cj;have sA:(wr.alloc (.cells #[.int .i64 3,.int .i64 (E t),.int .i64 0] 82)).heap.size=wr.heap.size+1:=by simp
    rw[sA] at hrun;obtain⟨A,a1,a2⟩:=DX.m;have hlk:=(a1.fr ((Fr.refl nothing wr).alloc (.cells #[.int .i64 0,.int .i64 0,.int .i64 0] 82)) id).look t (by omega);rw[a2 t (HU.out.1 rfl)] at hlk;clear hR hO vP hq hbc hab DX Cj sA vX k1 k4 a1 a2
    go_wp2_with (at_builtin;go_must (refine aD rfl _ _ 77 rfl _ _ rfl rfl hrun ?_))
    go_ret
    rw[Wi.out];exact M4.out
   by_cases k2:k=2
   ·subst k2;obtain⟨⟨sa,sn,sc⟩,r1,r2,r3⟩:=vP.1.row;have hsn:sn=R.ws.length:=by
     rcases r2.2 with⟨e,e2⟩|⟨g,cap,cur,e,_⟩
     ·simp only[ai.v,Value.slice.injEq] at e;omega
     ·simp only[ai.v,Value.slice.injEq] at e;exact e.2.1
    subst hsn;replace r1:wr.cell? ⟨c.mb,1,none⟩=some (.slice sa R.ws.length sc):=r1;have Ak:Fr nothing wr (wr.alloc (.cells #[.int .i64 0,.int .i64 0,.int .i64 0] 82)):=(Fr.refl _ _).alloc _;have hci:=af (Fr.refl nothing (wr.alloc (.cells #[.int .i64 0,.int .i64 0,.int .i64 0] 82))) id;have hwm:R.ws.length<=100000:=by omega
    have Zd:=hide (eX rV r2);have hml:=vP.1.ml;have UF:=hide vP;have HOO:=hide hO;have HQ:=hide hq;have nO:=hide Ak;have nG:=hide hci;have HR2:=hide r2;have HR3:=hide r3;clear hR hO vP hq hbc hab DX vX hci r2 r3 k1 k3 k4
    go_wp2_with fail
    have x2:=(Ak.cell (p:=⟨bx,2,none⟩) hbl id).trans z2;have xl:=Nat.lt_of_lt_of_le hbl Ak.size;have y1:=(Ak.cell (p:=⟨c.mb,1,none⟩) hml id).trans r1;have yl:=Nat.lt_of_lt_of_le hml Ak.size;clear Ak;generalize wr.alloc (.cells #[.int .i64 0,.int .i64 0,.int .i64 0] 82)=wi at*;have hbi:¬bx=wr.heap.size:=by omega
    obtain⟨ib,hib⟩:∃x,x=wr.heap.size:=⟨_,rfl⟩
    have aaZ:=hide (fun wv (hf:Fr (fun k=>k=ib) wi wv) (x:In)=>uF.out wv (nO.out.then hf (fun k hk e=>by omega)) x);rw[<-hib] at nG hbi;rw[<-hib];have HIB:=hide hib;clear hib
    go_loopw [11] (fun i wv=>∃(kk:Nat),kk<=R.ws.length/\i=.int .i64 kk/\Hid (Fr nothing wi wv/\∀i (hi:i<R.ws.length),i<kk->R.ws[i]≠t)) (fun i _=>R.ws.length-(intOf i).toNat)
    case atStart=>exact⟨0,Nat.zero_le _,rfl,Fr.refl _ _,fun i hi h=>by omega⟩
    case round=>
     obtain⟨kk,hkk,rfl,hR⟩:=hrel;obtain⟨hF,hno⟩:=hR.out;have u2:=(hF.cell (p:=⟨bx,2,none⟩) xl id).trans x2;have ul:=Nat.lt_of_lt_of_le xl hF.size;have v1:=(hF.cell (p:=⟨c.mb,1,none⟩) yl id).trans y1;have vl:=Nat.lt_of_lt_of_le yl hF.size
     by_cases hlt:kk<R.ws.length
     ·have hx:R.ws[kk]?=some R.ws[kk]:=List.getElem?_eq_getElem hlt;have hnn:=hno;generalize hxe:R.ws[kk]=x at hx;obtain⟨g,o,hg,dg,p0⟩:=nZ (s:=⟨sa,R.ws.length,sc⟩) Zd.out hx;simp only at hg;subst hg;have nC:=nO.out.trans hF;rw[<-nC.cell (p:=⟨g,_,none⟩) dg id] at p0;have eg:g<wr.heap.size:=Nat.lt_of_lt_of_le dg nC.size;have i1:(0:Int)<=(kk:Nat):=by omega
      have i2:((kk:Nat):Int)<(R.ws.length:Nat):=by omega
      by_cases hxt:x=t
      ·subst hxt;have hq:=CB x;have hwn:GJ R.ws x=kk:=Fz hno (.inr ⟨hlt,hxe⟩);have hct:R.ws.contains x=true:=by
        have:x∈R.ws:=List.mem_of_getElem? hx;simpa using this
       have i0:=(hF.cell (p:=⟨ib,0,none⟩) nG.out.2.2 id).trans (nG.out.1 0);have Zm:=(hF.cell (p:=⟨ib,1,none⟩) nG.out.2.2 id).trans (nG.out.1 1);have Zn:=(hF.cell (p:=⟨ib,2,none⟩) nG.out.2.2 id).trans (nG.out.1 2);have Zo:=(hF.frozen (p:=⟨ib,0,none⟩) nG.out.2.2 id).trans (nG.out.2.1 0);have if1:=(hF.frozen (p:=⟨ib,1,none⟩) nG.out.2.2 id).trans (nG.out.2.1 1);have if2:=(hF.frozen (p:=⟨ib,2,none⟩) nG.out.2.2 id).trans (nG.out.2.1 2);have il:=Nat.lt_of_lt_of_le nG.out.2.2 hF.size;obtain⟨w6,nK,g0,g1,g2,fK⟩:=QH (.int .i64 2) (.int .i64 (kk:Nat)) (.int .i64 0) i0 Zm Zn;have aa0:Fr (fun k=>k=ib) wi w6.drew:=((hF.mono (fun _ _ e=>e.elim)).trans fK).drew;obtain⟨q2,w5,hrun,Cj⟩:=aaZ.out w6.drew aa0 ⟨2,(kk:Nat),0⟩;have M4:=hide Cj;have Yv:Hid (Ad (gW l) E (.mk 2 n x a) ws=⟨R.ins++ [⟨2,(kk:Nat),0⟩],R.ws⟩):=by
        show Ad _ _ _ _=_
        rw[Wi.out];unfold qm uY;simp[hwn,Uw hct]
       have hne:¬((kk:Nat):Int)=(R.ws.length:Nat):=by omega
       have hneb:((((kk:Nat):Int))==((R.ws.length:Nat):Int))=false:=by simp;omega
       have s6:w6.drew.heap.size=wr.heap.size:=by rw[nK];simp[World.setCell]
       rw[s6] at hrun;rw[nK] at hrun;replace hrun:(Builtin.append_ #[77,77] 77 #[.slice q.a q.n q.c,.slice (some ⟨wr.heap.size,0,none⟩) 1 1]).run Tryz.prog ((((wr.setCell ⟨ib,0,none⟩ (.int .i64 2)).setCell ⟨ib,1,none⟩ (.int .i64 (kk:Nat))).setCell ⟨ib,2,none⟩ (.int .i64 0)).alloc (.cells #[.int .i64 2,.int .i64 (kk:Nat),.int .i64 0] 82)).drew=.ok (.slice q2.a q2.n q2.c) w5:=hrun;clear hR hF hno hnn nC hx hxe hwn hct Cj aa0 fK nK s6 g0 g1 g2
       go_wp2_with fail
       go_region
       go_wp2_with (at_builtin;go_must (refine aD rfl _ _ 77 rfl _ _ rfl rfl hrun ?_))
       go_ret
       rw[Yv.out];exact M4.out
      ·have hq:=uW hxt;have nH:=hide (show Fr nothing wi wr.drew/\∀i (hi:i<R.ws.length),i<kk+1->R.ws[i]≠t from⟨hF.drew,fun i hi h=>by
        by_cases e:i=kk
        ·subst e;rw[hxe];exact hxt
        ·exact hno i hi (by omega)⟩)
       clear hR hF hno hnn nC hx hxe
       go_wp2_with fail
       go_region
       go_wp2_with fail
       go_roundw
       case rel=>exact⟨kk+1,by omega,by go_num,nH.out⟩
       case measure=>simp[intOf];omega
     ·have hke:kk=R.ws.length:=by omega
      subst hke;have hwn:GJ R.ws t=R.ws.length:=Fz hno (.inl rfl);have hct:R.ws.contains t=false:=by
       rw[Bool.eq_false_iff];intro h;have hm:t∈R.ws:=by simpa using h
       obtain⟨i,hi,e⟩:=List.getElem_of_mem hm;exact hno i hi hi e
      have i0:=(hF.cell (p:=⟨ib,0,none⟩) nG.out.2.2 id).trans (nG.out.1 0);have Zm:=(hF.cell (p:=⟨ib,1,none⟩) nG.out.2.2 id).trans (nG.out.1 1);have Zn:=(hF.cell (p:=⟨ib,2,none⟩) nG.out.2.2 id).trans (nG.out.1 2);have Zo:=(hF.frozen (p:=⟨ib,0,none⟩) nG.out.2.2 id).trans (nG.out.2.1 0);have if1:=(hF.frozen (p:=⟨ib,1,none⟩) nG.out.2.2 id).trans (nG.out.2.1 1);have if2:=(hF.frozen (p:=⟨ib,2,none⟩) nG.out.2.2 id).trans (nG.out.2.1 2);have il:=Nat.lt_of_lt_of_le nG.out.2.2 hF.size;have hqb:((((R.ws.length:Nat):Int))==((R.ws.length:Nat):Int))=true:=by simp
      have V6:=hide hF;clear hR hF hno
      go_wp2_with fail
      go_region
      go_wp2_with fail
      have F9:Fr nothing wi wr.drew:=V6.out.drew;have F09:=nO.out.trans F9;obtain⟨w9,Zp⟩:∃w9,w9=wr.drew:=⟨_,rfl⟩
      replace i0:wr.drew.cell? ⟨ib,0,none⟩=_:=i0;replace Zm:wr.drew.cell? ⟨ib,1,none⟩=_:=Zm;replace Zn:wr.drew.cell? ⟨ib,2,none⟩=_:=Zn;replace Zo:wr.drew.frozen? ⟨ib,0,none⟩=_:=Zo;replace if1:wr.drew.frozen? ⟨ib,1,none⟩=_:=if1;replace if2:wr.drew.frozen? ⟨ib,2,none⟩=_:=if2;replace il:ib<wr.drew.heap.size:=il;replace u2:wr.drew.cell? ⟨bx,2,none⟩=_:=u2;replace ul:bx<wr.drew.heap.size:=ul;replace v1:wr.drew.cell? ⟨c.mb,1,none⟩=_:=v1;replace vl:c.mb<wr.drew.heap.size:=vl;rw[<-Zp] at F9 F09 i0 Zm Zn Zo if1 if2 il u2 ul v1 vl;rw[<-Zp];clear Zp V6;have hRI:=UF.out.1.new F09;have HRI:=hide hRI;have TL:=hide (aI HR2.out F09 (fun _ _=>id));have hvz:=hRI.fz 1;have hbl9:=hRI.bl;have HTL:=hide hRI.tl;obtain⟨jj,hj0,hy0,hy1,hy2⟩:=info_parts Ux;have nmb:∀b,(Value.slice sa R.ws.length sc).ownBlock=some b->b≠c.mb:=fun b hb=>(HR3.out b hb).2
      have nbx:∀b,(Value.slice sa R.ws.length sc).ownBlock=some b->b≠bx:=fun b hb e=>hbT (e▸(HR3.out b hb).1)
      have nib:∀b,(Value.slice sa R.ws.length sc).ownBlock=some b->b≠ib:=fun b hb e=>by have h1:=UF.out.1.tl b (HR3.out b hb).1;have:=HIB.out;omega
      have NMB:=hide nmb;have NBX:=hide nbx;have NIB:=hide nib;have UG:=hide F09;clear hRI F09 nmb nbx nib;refine aS (S:=fun w'=>w'.cell? ⟨c.mb,1,none⟩=some (.slice sa R.ws.length sc)/\w'.cell? ⟨bx,2,none⟩=some (.string (bs t))) (by kernel_rfl) [11] ?_ (fun hHeld=>?_)
      ·exact⟨v1,u2⟩
      refine bM 0 ?_
      refine bM 1 ?_
      refine bM 2 ?_
      refine bM 3 ?_
      refine bM 4 ?_
      refine bM 5 ?_
      refine bM 6 ?_
      have FA:Fr nothing w9 (w9.alloc (.cells #[.string (bs t)] 9)).drew:=((Fr.refl nothing w9).alloc _).drew;have sA:(w9.alloc (.cells #[.string (bs t)] 9)).drew.heap.size=w9.heap.size+1:=by show(w9.alloc (.cells #[.string (bs t)] 9)).heap.size=_;simp
      have Rh:=And.intro ((FA.cell (p:=⟨c.mb,1,none⟩) vl id).trans v1) ((FA.cell (p:=⟨bx,2,none⟩) ul id).trans u2);refine jN 7 (fun K hK=>?_)
      go_simp;refine hK.out _ _ Rh ?_
      clear hK K hHeld
      try simp only[Act.put,sA,sZ,sS]
      refine jN 8 (fun K hK=>?_)
      refine step_append_lies _ (by rfl) (.tmp 76) (.tmp 79) 23 (by rfl) c.base 9 jj _ 1 16 Tryz.underlying23 hj0 hy0 hy1 hy2 rfl (by decide) (.slice sa R.ws.length sc) R.ws.length _ (by simp[Act.eval]) (aI TL.out FA (fun _ _=>id)) ⟨w9.heap.size,0,none⟩ 1 1 [.string (bs t)] (by simp[Act.eval]) rfl (World.news_of_block (cs:=#[.string (bs t)]) (t:=9) (fr:=(0,0)) (bW w9 _)) (by simp[Value.oneCell']) (by decide) (by unfold maxLen;omega) (by omega) (by omega) _ rfl ?_
      intro g cp w8 Ll hg8 aa1 hlt8;have F8:Fr (fun k=>(Value.slice sa R.ws.length sc).ownBlock=some k) w9 w8:=(FA.mono (fun _ _ e=>e.elim)).grown hg8 (fun k hk=> .inl hk);have e1:=(F8.cell (p:=⟨c.mb,1,none⟩) vl (fun e=>NMB.out _ e rfl)).trans v1;have e2:=(F8.cell (p:=⟨bx,2,none⟩) ul (fun e=>NBX.out _ e rfl)).trans u2;have ef:=(F8.frozen (p:=⟨c.mb,1,none⟩) vl (fun e=>NMB.out _ e rfl)).trans hvz;have el:=Nat.lt_of_lt_of_le vl F8.size;have Ke:=And.intro e1 e2;have hgg:(Value.slice sa R.ws.length sc).ownBlock=some g\/w9.heap.size<=g:=aa1.imp id (fun e=>by rw[e,sA];omega)
      have wE:=hide (HRI.out.word (t:=t) (sw:=⟨sa,R.ws.length,sc⟩) v1 (g:=g) (cap:=cp) Ll F8 hgg);have Sq:=hide hgg;have lK:=hide F8;clear Ll hg8 F8 aa1 hgg;refine hK.out _ _ Ke ?_
      clear hK K Rh
      try simp only[Act.put,sA,sZ,sS]
      refine jN 9 (fun K hK=>?_)
      go_simp;refine hK.out _ _ Ke ?_
      clear hK K
      try simp only[Act.put,sA,sZ,sS]
      refine bM 10 ?_
      refine Al 11 (fun K hK=>?_)
      go_simp;refine hK.out _ _ ?_
      clear hK K
      try simp only[Act.put,sA,sZ,sS]
      refine wpAny_done (by kernel_rfl) ?_ _
      obtain⟨R6,F6,t6⟩:=wE.out;have UH:¬T' ib:=fun e=>by have h1:=UF.out.1.tl ib e;have:=HIB.out;omega
      have q0:=(F6.cell (p:=⟨ib,0,none⟩) il UH).trans i0;have q1:=(F6.cell (p:=⟨ib,1,none⟩) il UH).trans Zm;have q2:=(F6.cell (p:=⟨ib,2,none⟩) il UH).trans Zn;have qf0:=(F6.frozen (p:=⟨ib,0,none⟩) il UH).trans Zo;have qf1:=(F6.frozen (p:=⟨ib,1,none⟩) il UH).trans if1;have Dp:=(F6.frozen (p:=⟨ib,2,none⟩) il UH).trans if2;generalize w8.setCell ⟨c.mb,1,none⟩ (.slice (some ⟨g,0,none⟩) (R.ws.length+1) cp)=w6 at*;have ql:=Nat.lt_of_lt_of_le il F6.size;obtain⟨w7,hw7,g0,g1,g2,FD⟩:=QH (.int .i64 2) (.int .i64 (R.ws.length:Nat)) (.int .i64 0) q0 q1 q2;have acG:¬(T' ib\/ib=g):=by
       rintro(e|e)
       ·exact UH e
       ·rcases Sq.out with h|h
        ·exact NIB.out g h e.symm
        ·omega
      have hO7:gM w.heap.size q R.ins w7:=((HOO.out.fr UG.out (fun _ _=>id)).fr F6 (fun b hb=>(HQ.out b hb).1)).fr FD (fun b hb e=>by have h1:=(HOO.out.lt hb).2;have:=HIB.out;omega);have aa2:RP c T w v (R.ws++ [t]) (fun k=>T' k\/k=g) w7:=by
       refine⟨R6.fr FD (fun k hk e=>acG (e▸hk)) (fun b hb e=>by have:=Un.out b hb;have:=HIB.out;have:=UF.out.2.1.size;omega),?_,fun k hk=>?_⟩
       ·exact((UF.out.2.1.trans (UG.out.mono (fun _ _ e=>e.elim))).then F6 (fun k hk e=>(UF.out.2.2 k e).elim id (fun h=>by omega))).then FD (fun k hk e=>by have:=HIB.out;have:=UF.out.2.1.size;omega)
       ·rcases t6 k hk with h|h
        ·exact UF.out.2.2 k h
        ·exact .inr (Nat.le_trans UF.out.2.1.size (Nat.le_trans UG.out.size h))
      obtain⟨q4,w5,hrun,Cj⟩:=Rb hO7 aa2 (fun b hb e=>by
       rcases e with e|e
       ·exact(HQ.out b hb).1 e
       ·rcases Sq.out with h|h
        ·exact(HQ.out b hb).1 (e▸(HR3.out g h).1)
        ·have h1:=(HOO.out.lt hb).2;have:=UG.out.size;omega) Un.out ⟨2,(R.ws.length:Nat),0⟩ MO
      have M4:=hide Cj;have Yv:Hid (Ad (gW l) E (.mk 2 n t a) ws=⟨R.ins++ [⟨2,(R.ws.length:Nat),0⟩],R.ws++ [t]⟩):=by
       show Ad _ _ _ _=_
       rw[Wi.out];unfold qm uY;simp[hwn,(Q7 hct).1]
      have s7:w7.heap.size=w6.heap.size:=by rw[hw7];simp[World.setCell]
      rw[s7,hw7] at hrun;clear Cj aa2 hO7 FD hw7 s7 R6 F6 t6 wE g0 g1 g2 Ke hwn hct
      go_wp2_with (at_builtin;go_must (refine aD rfl _ _ 77 rfl _ _ rfl rfl hrun ?_))
      go_ret
      rw[Yv.out];exact M4.out
   by_cases k11:k=11
   ·subst k11;have hcall:=HU.out.2.1 rfl;have Ak:Fr nothing wr (wr.alloc (.cells #[.int .i64 0,.int .i64 0,.int .i64 0] 82)):=(Fr.refl _ _).alloc _;have hci:=af (Fr.refl nothing (wr.alloc (.cells #[.int .i64 0,.int .i64 0,.int .i64 0] 82))) id;have hfn:=vP.1.fn.fr Ak (fun _ _=>id);have hc0:=(Ak.cell (p:=⟨c.mb,0,none⟩) vP.1.ml id).trans vP.1.c0;have hml:=Nat.lt_of_lt_of_le vP.1.ml Ak.size;have Yw:=vP.1.fl;obtain⟨Yx,aa3⟩:=ay hfn;obtain⟨mb,base,⟨fa,fn,fc⟩,rsF⟩:=c;simp only at hfn hc0 hml Yx aa3 Yw;have M5:=ni.out;unfold wG at M5;simp only at M5;rw[M5.1] at Yx aa3;subst Yx;replace hc0:(wr.alloc (.cells #[.int .i64 0,.int .i64 0,.int .i64 0] 82)).cell? ⟨mb,0,none⟩=some (.slice fa l.length fc):=hc0;have x2:=(Ak.cell (p:=⟨bx,2,none⟩) hbl id).trans z2;have x3:=(Ak.cell (p:=⟨bx,3,none⟩) hbl id).trans z3;have xl:=Nat.lt_of_lt_of_le hbl Ak.size;have nO:=hide Ak;have nG:=hide hci;have acH:=hide hfn;have acI:=hide M5.2;have aa4:=hide M5.1;have hbi:¬bx=wr.heap.size:=by omega
    have hmi:¬mb=wr.heap.size:=by have:=vP.1.ml;simp only at this;omega
    have hfi:∀b,(Value.slice fa l.length fc).ownBlock=some b->¬b=wr.heap.size:=fun b hb=>by have:=Yw b hb;omega
    have acJ:=hide hfi;clear hR hO vP hq hbc hab DX vX Ak hci hfn M5 hfi Yw k1 k2 k3 k4
    go_wp2_with fail
    generalize wr.alloc (.cells #[.int .i64 0,.int .i64 0,.int .i64 0] 82)=wi at*;generalize hib:wr.heap.size=ib at*
    go_loopw [104,12,13] (fun i _ _ wv=>∃(j2:Nat),j2<=l.length/\i=.int .i64 j2/\Hid (Fr (fun k=>k=ib) wi wv/\wv.cell? ⟨ib,0,none⟩=some (.int .i64 (qD l t a.length j2).op)/\wv.cell? ⟨ib,1,none⟩=some (.int .i64 (qD l t a.length j2).a)/\wv.cell? ⟨ib,2,none⟩=some (.int .i64 (qD l t a.length j2).b)/\∀j,wv.frozen? ⟨ib,j,none⟩=false)) (fun i _ _ _=>l.length-(intOf i).toNat)
    case atStart=>exact⟨0,Nat.zero_le _,rfl,Fr.refl _ _,nG.out.1 0,nG.out.1 1,nG.out.1 2,nG.out.2.1⟩
    case round=>
     obtain⟨j2,hj2,rfl,hR⟩:=hrel
     by_cases Kg:j2<l.length
     ·have hx:l[j2]?=some l[j2]:=List.getElem?_eq_getElem Kg;have hr:rsF[j2]?=some (rsF[j2]'(by rw[aa4.out];omega)):=List.getElem?_eq_getElem _
      generalize hre:rsF[j2]'(by rw[aa4.out];omega)=r at hr;generalize hfe:l[j2]=f at hx;have hnm:=acI.out j2 r f hr hx;obtain⟨g,o,hg,dg,p0,p1,p2⟩:=Fu (s:=⟨fa,l.length,fc⟩) acH.out hr;simp only at hg;subst hg;obtain⟨hF,i0,i1,i2,ifz⟩:=hR.out;have hgi:¬g=ib:=acJ.out g rfl;rw[<-hF.cell (p:=⟨g,_,none⟩) dg hgi] at p0 p1 p2;have eg:g<wr.heap.size:=Nat.lt_of_lt_of_le dg hF.size;have y2:=(hF.cell (p:=⟨bx,2,none⟩) xl hbi).trans x2;have y3:=(hF.cell (p:=⟨bx,3,none⟩) xl hbi).trans x3;have yl:=Nat.lt_of_lt_of_le xl hF.size;have hil:ib<wr.heap.size:=lt_of_cell i0;have jf:Fr nothing wr (wr.alloc (fo r)):=(Fr.refl _ _).alloc _;obtain⟨rt,rp,rb⟩:=r;simp only at hnm p0 p1 p2;subst hnm;have hF2:=hF.trans (jf.mono (fun _ _ e=>e.elim));have v0:=(jf.cell (p:=⟨ib,0,none⟩) hil id).trans i0;have v1:=(jf.cell (p:=⟨ib,1,none⟩) hil id).trans i1;have v2:=(jf.cell (p:=⟨ib,2,none⟩) hil id).trans i2;have u2:=(jf.cell (p:=⟨bx,2,none⟩) yl id).trans y2;have u3:=(jf.cell (p:=⟨bx,3,none⟩) yl id).trans y3;have ul:=Nat.lt_of_lt_of_le yl jf.size;have vz:∀j,(wr.alloc (fo ⟨f.t,rp,rb⟩)).frozen? ⟨ib,j,none⟩=false:=fun j=>(jf.frozen (p:=⟨ib,j,none⟩) hil id).trans (ifz j)
      have vl:=Nat.lt_of_lt_of_le hil jf.size;obtain⟨n0,n1,n2,nl⟩:=Fv (Fr.refl nothing (wr.alloc (fo ⟨f.t,rp,rb⟩))) id;have bq:=hide hF2;have HV:=hide (And.intro v0 (And.intro v1 (And.intro v2 vz)));have vz0:=vz 0;have vz1:=vz 1;have vz2:=vz 2;clear hR hF jf hF2 hr hx hre i0 i1 i2 ifz y2 y3
      by_cases hft:f.t=t
      ·subst hft;obtain⟨w6,nK,g0,g1,g2,fK⟩:=QH (.int .i64 17) (.int .i64 (j2:Nat)) (.int .i64 (a.length:Nat)) v0 v1 v2;have HC:=hide (Rc (len:=a.length) Kg hfe rfl);have nH:=hide (show Fr (fun k=>k=ib) wi w6/\w6.cell? ⟨ib,0,none⟩=some (.int .i64 17)/\w6.cell? ⟨ib,1,none⟩=some (.int .i64 (j2:Nat))/\w6.cell? ⟨ib,2,none⟩=some (.int .i64 (a.length:Nat))/\∀j,w6.frozen? ⟨ib,j,none⟩=false from⟨bq.out.trans fK,g0,g1,g2,fun j=>by rw[nK,World.frozen?_setCell,World.frozen?_setCell,World.frozen?_setCell];exact HV.out.2.2.2 j⟩)
       have HW6:=hide nK;have hq:=CB f.t;clear nK g0 g1 g2 fK hfe vz;generalize VJ:wr.alloc (fo ⟨f.t,rp,rb⟩)=wa at*
       go_wp2_with fail
       rw[<-HW6.out]
       go_roundw
       case rel=>exact⟨j2+1,by omega,by go_num,by rw[HC.out];exact nH.out⟩
       case measure=>simp[intOf];omega
      ·have HC:=hide (Re (len:=a.length) Kg hfe hft);have hq:=uW hft;clear hfe vz;generalize VJ:wr.alloc (fo ⟨f.t,rp,rb⟩)=wa at*
       go_wp2_with fail
       go_roundw
       case rel=>exact⟨j2+1,by omega,by go_num,by rw[HC.out];exact⟨bq.out,HV.out⟩⟩
       case measure=>simp[intOf];omega
     ·have FH:j2=l.length:=by omega
      obtain⟨hF,i0,i1,i2,ifz⟩:=hR.out;rw[FH,M0 hcall] at i0 i1 i2;have hil:ib<wr.heap.size:=lt_of_cell i0;obtain⟨q2,w5,hrun,Cj⟩:=uF.out wr (nO.out.then hF (fun k hk e=>by omega)) ⟨17,gW l t,(a.length:Nat)⟩;have M4:=hide Cj;simp only at i0 i1 i2 hrun;clear hR hF ifz FH Cj
      go_wp2_with (at_builtin;go_must (refine aD rfl _ _ 77 rfl _ _ rfl rfl hrun ?_))
      go_ret
      rw[Wi.out];exact M4.out
   ·have hkr:-9223372036854775808<=k/\k<=9223372036854775807:=by have:=HKD.out;omega
    have e1:=UD (gW l) E k n t a.length R.ws k1 k2 k3 k4 k11;have e2:uY k t R.ws=R.ws:=by unfold uY;rw[if_neg k2]
    have Ak:Fr nothing wr (wr.alloc (.cells #[.int .i64 0,.int .i64 0,.int .i64 0] 82)):=(Fr.refl _ _).alloc _;have sA:(wr.alloc (.cells #[.int .i64 0,.int .i64 0,.int .i64 0] 82)).heap.size=wr.heap.size+1:=by simp
    have hci:=af (Fr.refl nothing (wr.alloc (.cells #[.int .i64 0,.int .i64 0,.int .i64 0] 82))) id;obtain⟨wi,hwi⟩:∃wi,wi=wr.alloc (.cells #[.int .i64 0,.int .i64 0,.int .i64 0] 82):=⟨_,rfl⟩
    rw[<-hwi] at Ak sA hci;obtain⟨m1,m2,m3,m4,m5,m6,r1,r2,r3,r4,r5,r6,r7,fK,TU⟩:=UA wi;have hlk:=r7 k hkr.1 hkr.2;rw[sA] at r1 r2 r3 r4 r5 r6 hlk TU;rw[hwi] at r1;have i0:=(fK.cell (p:=⟨wr.heap.size,0,none⟩) hci.2.2 id).trans (hci.1 0);have i1:=(fK.cell (p:=⟨wr.heap.size,1,none⟩) hci.2.2 id).trans (hci.1 1);have i2:=(fK.cell (p:=⟨wr.heap.size,2,none⟩) hci.2.2 id).trans (hci.1 2);have Zo:=(fK.frozen (p:=⟨wr.heap.size,0,none⟩) hci.2.2 id).trans (hci.2.1 0);have il:=Nat.lt_of_lt_of_le hci.2.2 fK.size;have x0:=(fK.cell (p:=⟨bx,0,none⟩) (Nat.lt_of_lt_of_le hbl Ak.size) id).trans ((Ak.cell (p:=⟨bx,0,none⟩) hbl id).trans z0);have xl:=Nat.lt_of_lt_of_le (Nat.lt_of_lt_of_le hbl Ak.size) fK.size;have hmm:=@run_makeMap Tryz.prog;rw[e1,e2] at Wi;clear hR hO vP hq hbc hab DX vX e1 e2 hci;have p1:(k==1)=false:=by simpa using k1
    have p2:(k==2)=false:=by simpa using k2
    have p3:(k==3)=false:=by simpa using k3
    have p4:(k==4)=false:=by simpa using k4
    have p11:(k==11)=false:=by simpa using k11
    obtain⟨e0,e2,FD⟩:=kW m6 wr.heap.size 0 (.int .i64 ((J8 k).getD 0)) i0;have aa5:Fr nothing wr (m6.setCell ⟨wr.heap.size,0,none⟩ (.int .i64 ((J8 k).getD 0))):=(Ak.trans fK).then FD (fun k hk e=>by omega);have j1:=(e2 1 (by decide)).trans i1;have j2:=(e2 2 (by decide)).trans i2;have jl:=Nat.lt_of_lt_of_le il FD.size;obtain⟨q2,w5,hrun,Cj⟩:=uF.out _ aa5 ⟨(J8 k).getD 0,0,0⟩;have M4:=hide Cj;have sM:(m6.setCell ⟨wr.heap.size,0,none⟩ (.int .i64 ((J8 k).getD 0))).heap.size=m6.heap.size:=by simp[World.setCell]
    rw[sM] at hrun;clear sM hwi Cj aa5 FD e2 Ak fK hkr sA TU
    go_wp2_with (at_builtin;go_must (refine aD rfl _ _ 77 rfl _ _ rfl rfl hrun ?_))
    go_ret
    rw[Wi.out];exact M4.out
theorem Ck (l:List Fn):∀(x:Ex),REx l x
 |.mk k n t a=>Kc l k n t a (fun x _=>Ck l x)
end
end Go.Proofs.YtbcadjgpcfmkfaaGreatDoor
