/- RMkF1; RMkF2; Shape. -/
import Derived.Test.YtbcadjgpcfmkfaaGreatDoorPartU39
import Derived.Test.YtbcadjgpcfmkfaaGreatDoorPartU1
import Derived.Test.YtbcadjgpcfmkfaaGreatDoorPartU7
set_option maxHeartbeats 0
set_option maxRecDepth 100000
set_option linter.unusedSimpArgs false
namespace Go.Proofs.YtbcadjgpcfmkfaaGreatDoor
open Go Go.RowKit
section
structure FnR (l:List Fn) (f:Fn):Prop where
 sh:Tt f
 ke:vH f.b
 u:xD (Kb l) f.b f.p
 p:f.p.length<=4
theorem Rq (w:World) (x y:In):Sl encI 3 (w.alloc (.cells #[.int .i64 x.op,.int .i64 x.a,.int .i64 x.b,.int .i64 y.op,.int .i64 y.a,.int .i64 y.b] 82)) (ai.v ⟨some ⟨w.heap.size,0,none⟩,2,2⟩) [x,y]:=by
 refine⟨some ⟨w.heap.size,0,none⟩,2,rfl,by unfold maxLen;simp,fun i z hi=>?_⟩
 have key:=fun j u hu=>World.news_of_block (cs:=#[.int .i64 x.op,.int .i64 x.a,.int .i64 x.b,.int .i64 y.op,.int .i64 y.a,.int .i64 y.b]) (t:=82) (fr:=(0,0)) (bW w _) j u hu
 match i,hi with
 |0,hi=>
  simp at hi
  subst hi;refine⟨_,_,rfl,by simp,fun j u hu=>?_⟩
  have hj:j<3:=by have:=(List.getElem?_eq_some_iff.1 hu).1;rwa [lQ] at this
  have:=key j u (by rw[<-hu];match j,hj with|0,_=>rfl|1,_=>rfl|2,_=>rfl);rw[add_eq] at this;simpa using this
 |1,hi=>
  simp at hi
  subst hi;refine⟨_,_,rfl,by simp,fun j u hu=>?_⟩
  have hj:j<3:=by have:=(List.getElem?_eq_some_iff.1 hu).1;rwa [lQ] at this
  have:=key (3+j) u (by rw[<-hu];match j,hj with|0,_=>rfl|1,_=>rfl|2,_=>rfl);rw[add_eq] at this;simpa using this
 |i+2,hi=>simp at hi
theorem Kh (l:List Fn) (hSt:∀f∈l,aa8 l f.b) (s:ai) (rs:List qH) (w:World) (hS:Sl ug 3 w s.v rs) (hE:Each (Ee w (fun k=>k<w.heap.size)) rs l) (hsb:∀b,s.v.ownBlock=some b->b<w.heap.size) (hM:∀f∈l,FnR l f) (hN:xB l<=50000) (h5:l.length<=5):
 Calls Tryz.prog 25 #[.slice s.a s.n s.c] w (MkP w (uZ l)):=by
 obtain⟨hln,hlm⟩:=ay hS;obtain⟨la,ln,lc⟩:=s;simp only at hln;rw[hE.1] at hln;subst hln;have hll:l.length<=9223372036854775807:=by have:=hE.1;omega
 have hmm:=@run_makeMap Tryz.prog;have s1:(w.alloc (.cells #[.slice none 0 0,.slice none 0 0] 25)).heap.size=w.heap.size+1:=by simp
 have s2:((w.alloc (.cells #[.slice none 0 0,.slice none 0 0] 25)).alloc (.cells #[.slice la l.length lc,.slice none 0 0,.int .i64 0] 122)).heap.size=w.heap.size+1+1:=by simp
 obtain⟨w3,hw3⟩:∃w3,w3=((w.alloc (.cells #[.slice none 0 0,.slice none 0 0] 25)).alloc (.cells #[.slice la l.length lc,.slice none 0 0,.int .i64 0] 122)).alloc (.cells #[.slice none 0 0,.slice none 0 0] 25):=⟨_,rfl⟩
 have tO:Fr nothing w w3:=by rw[hw3];exact(((Fr.refl _ _).alloc _).alloc _).alloc _
 have cr:=af (((Fr.refl nothing (w.alloc (.cells #[.slice none 0 0,.slice none 0 0] 25))).alloc (.cells #[.slice la l.length lc,.slice none 0 0,.int .i64 0] 122)).alloc (.cells #[.slice none 0 0,.slice none 0 0] 25)) id;have cm:=af ((Fr.refl nothing ((w.alloc (.cells #[.slice none 0 0,.slice none 0 0] 25)).alloc (.cells #[.slice la l.length lc,.slice none 0 0,.int .i64 0] 122))).alloc (.cells #[.slice none 0 0,.slice none 0 0] 25)) id;have cp:=af (Fr.refl nothing (((w.alloc (.cells #[.slice none 0 0,.slice none 0 0] 25)).alloc (.cells #[.slice la l.length lc,.slice none 0 0,.int .i64 0] 122)).alloc (.cells #[.slice none 0 0,.slice none 0 0] 25))) id;rw[s1] at cm;rw[s2] at cp;rw[<-hw3] at cr cm cp;have hNI:NI ⟨w.heap.size+1,w.heap.size,⟨la,l.length,lc⟩,rs⟩ w.heap.size (w.heap.size+1+1) (fun k=>k=w.heap.size+1) 0 [] [] w w3:=by
  refine⟨⟨cm.1 0,cm.1 2,cm.2.1,cm.2.2,hS.fr tO (fun _ _=>id),⟨aN,cm.1 1,World.ownsRow_nil _ _ _ _,fun b hb=>(by cases hb)⟩,tO.size,rfl,fun b hb e=>?_,fun b hb=>Nat.lt_of_lt_of_le (hsb b hb) tO.size,fun k hk=>by rw[hk];exact cm.2.2⟩,tO,fun k hk=>by rw[hk];omega,cp.1 1,cp.2.1,cr.1,cr.2.1,cr.2.2,?_,?_,⟨Nat.le_refl _,by omega,by omega⟩,hsb,aN,[],cp.1 0,World.ownsRow_nil _ _ _ _,⟨rfl,fun i r x h=>by simp at h⟩,fun b hb=>(by cases hb)⟩
  ·have h1:=hsb b hb;have h2:b=w.heap.size+1:=e;omega
  ·show ¬(w.heap.size+1+1=w.heap.size+1);omega
  ·show ¬(w.heap.size=w.heap.size+1);omega
 have HNI:=hide hNI;have HS:=hide hS;have HE:=hide hE;have ni:Hid (wG ⟨w.heap.size+1,w.heap.size,⟨la,l.length,lc⟩,rs⟩ l):=⟨hE.1,fun i r f h1 h2=>(hE.2 i r f h1 h2).t⟩;clear hNI hS hE cr cm cp tO s1 s2
 go_enter Tryz.func25,Tryz.ntmps25
 go_wp2
 rw[<-hw3];obtain⟨mb,hmb⟩:∃x,x=w.heap.size+1:=⟨_,rfl⟩
 obtain⟨rb,hrb⟩:∃x,x=w.heap.size:=⟨_,rfl⟩
 obtain⟨pb,hpb⟩:∃x,x=w.heap.size+1+1:=⟨_,rfl⟩
 rw[<-hpb] at HNI;rw[<-hpb];rw[<-hmb] at HNI ni;rw[<-hmb];rw[<-hrb] at HNI ni;rw[<-hrb];obtain⟨c,hc⟩:∃c:Rk,c=⟨mb,rb,⟨la,l.length,lc⟩,rs⟩:=⟨_,rfl⟩
 rw[<-hc] at HNI ni;have hcm:c.mb=mb:=by rw[hc]
 have hcf:c.fs=⟨la,l.length,lc⟩:=by rw[hc]
 clear hw3 hmb hrb hpb hc;subst hcm
 go_loopw [18,7,8,9,10,11] (fun i _ _ _ _ _ wv=>∃(k:Nat),k<=l.length/\i=.int .i64 k/\Hid (∃(T:Nat->Prop) (v:Nat) (cs:List Cd) (ws:List Bs),NI c rb pb T v cs ws w wv/\uZ l=Bp (gW l) (l.drop k) ⟨cs,ws⟩/\cs.length=k/\ws.length+xB (l.drop k)<=50000)) (fun i _ _ _ _ _ _=>l.length-(intOf i).toNat)
 case atStart=>exact⟨0,Nat.zero_le _,rfl,_,0,[],[],HNI.out,rfl,rfl,by rw[List.drop_zero];simpa using hN⟩
 case round=>
  obtain⟨k,hk,rfl,hR⟩:=hrel
  by_cases hkl:k<l.length
  ·have hx:l[k]?=some l[k]:=List.getElem?_eq_getElem hkl;have hr:rs[k]?=some (rs[k]'(by rw[HE.out.1];omega)):=List.getElem?_eq_getElem _
   have hxm:l[k]∈l:=List.getElem_mem hkl;have hdr:l.drop k=l[k]::l.drop (k+1):=List.drop_eq_getElem_cons hkl;generalize rs[k]'(by rw[HE.out.1];omega)=r at hr
   generalize l[k]=f at hx hxm hdr;have hok:=HE.out.2 k r f hr hx;obtain⟨g,o,hg,dg,p0,p1,p2⟩:=Fu (s:=⟨la,l.length,lc⟩) HS.out hr;simp only at hg;subst hg;obtain⟨T,v,cs,ws,hI,hEq,hcl,Zv⟩:=hR.out;have hFk:=hI.f;rw[<-hFk.cell (p:=⟨g,_,none⟩) dg id] at p0 p1 p2;have eg:g<wr.heap.size:=Nat.lt_of_lt_of_le dg hFk.size;rw[hdr,Bp] at hEq;have hNk':ws.length+(f.p.length+jq f.b)+xB (l.drop (k+1))<=50000:=by
    rw[hdr] at Zv;unfold xB at Zv⊢;simp only[List.map_cons,List.sum_cons] at Zv;omega
   have hFM:=hM f hxm;have ZU:=hide (hSt f hxm);have hfp:=hFM.p;have hpn:=hFM.sh;obtain⟨hpl,hpm⟩:=ay hok.p;obtain⟨rt,⟨Rs,rpn,rpc⟩,⟨SB,SC,SE⟩⟩:=r;simp only at hpl p0 p1 p2;subst hpl;have u1:(wr.alloc (fo ⟨rt,⟨Rs,f.p.length,rpc⟩,⟨SB,SC,SE⟩⟩)).heap.size=wr.heap.size+1:=by simp
   have jd:Fr nothing wr ((wr.alloc (fo ⟨rt,⟨Rs,f.p.length,rpc⟩,⟨SB,SC,SE⟩⟩)).alloc (.map #[] 0)):=((Fr.refl _ _).alloc _).alloc _;have hfc:=Fv ((Fr.refl nothing (wr.alloc (fo ⟨rt,⟨Rs,f.p.length,rpc⟩,⟨SB,SC,SE⟩⟩))).alloc (.map #[] 0)) id;have hSI:=SI.made (wr.alloc (fo ⟨rt,⟨Rs,f.p.length,rpc⟩,⟨SB,SC,SE⟩⟩));rw[u1] at hSI;have HI:=hide hI;have uf:=hide hok;have Sz:=hide hEq;have aX:=hide jd;have JI:=hide hfc;have HSI:=hide hSI;have Dv:=hide hFM;clear hR hI hok hEq hFk jd hfc hSI hr hx Zv hFM hpn u1
   go_wp2
   generalize(wr.alloc (fo ⟨rt,⟨Rs,f.p.length,rpc⟩,⟨SB,SC,SE⟩⟩)).alloc (.map #[] 0)=w5 at*;obtain⟨fb,Pv⟩:∃x,x=wr.heap.size:=⟨_,rfl⟩
   obtain⟨ab,hab⟩:∃x,x=wr.heap.size+1:=⟨_,rfl⟩
   rw[<-hab] at HSI;rw[<-hab];rw[<-Pv] at JI;rw[<-Pv];have Dq:=hide (And.intro Pv hab);have hab':ab≠fb:=by omega
   clear Pv hab p0 p1 p2;obtain⟨wq,hwq⟩:∃x,x=wr:=⟨_,rfl⟩
   subst hwq
   go_loopw [26,9,10] (fun i _ _ wv=>∃(j:Nat),j<=f.p.length/\i=.int .i64 j/\Hid (∃(A:dQ) (E:Bs->Int),SI ab A wv/\(∀t,(A.f t).getD 0=E t)/\A.n<=j/\Fr (fun k=>k=ab) w5 wv/\rX f.p 0 (fun _=>0)=rX (f.p.drop j) j E)) (fun i _ _ _=>f.p.length-(intOf i).toNat)
   case atStart=>exact⟨0,Nat.zero_le _,rfl,dQ.empty,fun _=>0,HSI.out,fun _=>rfl,Nat.le_refl _,Fr.refl _ _,rfl⟩
   case round=>
    obtain⟨j,hj,rfl,hR⟩:=hrel;obtain⟨A,E,hA,hAE,hAn,Dt,hPE⟩:=hR.out
    by_cases hjl:j<f.p.length
    ·have hx:f.p[j]?=some f.p[j]:=List.getElem?_eq_getElem hjl;have Bb:f.p[j]∈f.p:=List.getElem_mem hjl;have Rn:f.p.drop j=f.p[j]::f.p.drop (j+1):=List.drop_eq_getElem_cons hjl;generalize f.p[j]=x at hx Bb Rn;have hxl:=Dv.out.sh.p x Bb;obtain⟨g2,o2,hg2,Gi,u0⟩:=nZ (s:=⟨Rs,f.p.length,rpc⟩) uf.out.p hx;simp only at hg2;subst hg2;have nC:Fr nothing w wr:=((HI.out.f.trans aX.out).then Dt (fun k hk e=>by have:=Dq.out.2;have:=HI.out.f.size;omega))
     rw[<-nC.cell (p:=⟨g2,_,none⟩) Gi id] at u0;have Zq:g2<wr.heap.size:=Nat.lt_of_lt_of_le Gi nC.size;obtain⟨wu,ru,hA2,hfu⟩:=hA.store x (by omega) (j:Nat) (by omega) (by omega) (by omega);have nH:=hide (show∃(A:dQ) (E:Bs->Int),SI ab A wu/\(∀t,(A.f t).getD 0=E t)/\A.n<=j+1/\Fr (fun k=>k=ab) w5 wu/\rX f.p 0 (fun _=>0)=rX (f.p.drop (j+1)) (j+1) E from⟨A.put x j,upd E x j,hA2,Q6 hAE x j,by unfold dQ.put;dsimp only;split<;>omega,Dt.trans hfu,by rw[hPE,Rn,rX]⟩)
     clear hR hA hAE hAn Dt hPE nC hA2 hfu hx
     go_wp2
     go_roundw
     case rel=>exact⟨j+1,by omega,by go_num,nH.out⟩
     case measure=>simp[intOf];omega
    ·have vX:j=f.p.length:=by omega
     rw[vX,List.drop_length,rX] at hPE;have acQ:=Dq.out;have BP:Fr nothing wq wr:=aX.out.then Dt (fun k hk e=>by omega);have hI2:=HI.out.new BP;have DL:=hI2.vars f.p.length;have hmc:=hI2.ri.c2;have hmz:=hI2.ri.fz 2;have hml:=hI2.ri.ml;have hmlq:=HI.out.ri.ml;obtain⟨b0,b1,b2,bl⟩:=JI.out;have nf:¬fb=ab:=fun e=>hab' e.symm;rw[<-Dt.cell (p:=⟨fb,_,none⟩) bl nf] at b1 b2;have bl2:=Nat.lt_of_lt_of_le bl Dt.size;obtain⟨d1,d2,zz⟩:=kW wr c.mb 2 (.int .i64 (f.p.length:Nat)) hmc;have nfm:¬fb=c.mb:=by omega
     obtain⟨w6,nK⟩:∃w6,w6=wr.setCell ⟨c.mb,2,none⟩ (.int .i64 (f.p.length:Nat)):=⟨_,rfl⟩
     rw[<-nK] at DL zz;have b1':=(zz.cell (p:=⟨fb,1,none⟩) bl2 nfm).trans b1;have b2':=(zz.cell (p:=⟨fb,2,none⟩) bl2 nfm).trans b2;have UT:=Nat.lt_of_lt_of_le bl2 zz.size;have Rt:∀k,T k->k<wq.heap.size:=HI.out.ri.tl
     have DX:NG ab (rX f.p 0 (fun _=>0)) f.p f.p.length T w6:=⟨⟨A,hA.fr zz (fun e=>by omega),fun t _=>by rw[hAE,hPE],by omega⟩,fun e=>by have:=Rt _ e;omega⟩;have YC:Ee w6 (ap T w6) ⟨rt,⟨Rs,f.p.length,rpc⟩,⟨SB,SC,SE⟩⟩ f:=xz _ _ _ _ _ _ _ uf.out DL.f (fun _ _=>id) (fun k hk=>⟨fun e=>by have:=HI.out.t0 k e;omega,Nat.lt_of_lt_of_le hk DL.f.size⟩)
     obtain⟨rb2,hb1,hb2⟩:=YC.b;have hlw:=pO (gW l) f.b (rX f.p 0 (fun _=>0)) f.p.length ws 0;have HST:=hide (ZU.out c T f.p.length ws (rX f.p 0 (fun _=>0)) f.p ab ⟨SB,SC,SE⟩ rb2 w6 DL.ri ni.out DX hb1 YC.bP hb2 Dv.out.u (by omega) (by omega) (by omega) Dv.out.sh.b Dv.out.ke);have hNX:∀(q:ai) (T2:Nat->Prop) (w7:World),gM w6.heap.size q (Bo (gW l) f ws).ins w7->RP c T w6 (Bo (gW l) f ws).v (Bo (gW l) f ws).ws T2 w7->(∀b,q.v.ownBlock=some b->¬T2 b)->
      ∃(q4:ai) (w8:World),(Builtin.append_ #[77,77] 77 #[.slice q.a q.n q.c,.slice (some ⟨w7.heap.size,0,none⟩) 2 2]).run Tryz.prog (w7.alloc (.cells #[.int .i64 1,.int .i64 0,.int .i64 0,.int .i64 18,.int .i64 0,.int .i64 0] 82))=.ok (.slice q4.a q4.n q4.c) w8/\
      (NI c rb pb T2 (Bo (gW l) f ws).v cs (Bo (gW l) f ws).ws w w8/\gM w6.heap.size q4 (Sd (gW l) f ws) w8/\(∀b,q4.v.ownBlock=some b->¬T2 b)/\Fr (fun k=>T k\/w6.heap.size<=k) w6 w8):=by
      intro q T2 w7 o1 p1 n1;have FL:Fr nothing w7 (w7.alloc (.cells #[.int .i64 1,.int .i64 0,.int .i64 0,.int .i64 18,.int .i64 0,.int .i64 0] 82)):=(Fr.refl _ _).alloc _;have hll:=hlw.i;obtain⟨q4,w8,hrun,Rf,jW,t4⟩:=(o1.fr FL (fun _ _=>id)).app (x:=⟨some ⟨w7.heap.size,0,none⟩,2,2⟩) (Rq w7 ⟨1,0,0⟩ ⟨18,0,0⟩) (Nat.le_trans p1.2.1.size FL.size) (by show(dY (gW l) f.b (rX f.p 0 (fun _=>0)) f.p.length ws 0).ins.length+2<=_;omega)
      have hI7:=(DL.call p1).new FL;have hTl:=hI7.ri.tl;obtain⟨sc,rsc,r1,r2,r3,r4⟩:=hI7.rows;have o1l:∀b,q.v.ownBlock=some b->w6.heap.size<=b:=fun b hb=>(o1.lt hb).1
      have FLF:Fr (fun k=>q.v.ownBlock=some k) w7 w8:=(FL.mono (fun _ _ e=>e.elim)).trans jW;have Ki:NI c rb pb T2 (Bo (gW l) f ws).v cs (Bo (gW l) f ws).ws w w8:=DL.call ⟨p1.1.fr FLF (fun k hk e=>n1 k e hk) (fun b hb e=>by have:=DL.fo b hb;have:=DL.f.size;have:=o1l b e;omega),p1.2.1.then FLF (fun k hk e=>by have:=o1l k e;omega),p1.2.2⟩
      refine⟨q4,w8,hrun,Ki,Rf,fun b hb=>?_,((p1.2.1.mono (fun _ _ e=> .inl e)).trans (FL.mono (fun _ _ e=>e.elim))).trans (jW.mono (fun k _ e=> .inr (o1l k e)))⟩
      rcases t4 b hb with e|e
      ·exact n1 b e
      ·exact fun e2=>by have:=hTl b e2;omega
     have nH:=hide hNX;have HI3:=hide DL;have hlv:=hlw.v;have hlwn:=hlw.w;have hll:=hlw.i;have M9:¬(T fb\/w6.heap.size<=fb):=by
      rintro(e|e)
      ·have:=Rt _ e;omega
      ·omega
     have hpq:w6.cell? ⟨pb,0,none⟩=wq.cell? ⟨pb,0,none⟩:=(zz.cell (p:=⟨pb,0,none⟩) hI2.pl (fun e=>by have e2:pb=c.mb:=e;exact hI2.tp (e2▸hI2.ri.tm))).trans (BP.cell (p:=⟨pb,0,none⟩) HI.out.pl id);have hqs:wq.heap.size<=w6.heap.size:=Nat.le_trans BP.size zz.size;clear hR hA hAE hAn Dt hPE BP hI2 DL d1 d2 zz DX YC hb1 hb2 hNX Rt acQ hlw vX;obtain⟨n2,XM⟩:∃n2,(Sd (gW l) f ws).length=n2:=⟨_,rfl⟩
     obtain⟨n3,hN3⟩:∃n3,gB f.b=n3:=⟨_,rfl⟩
     have hn2:n2<=1000000:=by
      rw[<-XM];unfold Sd;simp only[List.length_append,List.length_cons,List.length_nil];show(dY (gW l) f.b (rX f.p 0 (fun _=>0)) f.p.length ws 0).ins.length+_<=_
      omega
     have HHI:Hid (∀w8,Fr nothing w w8->Calls Tryz.prog 60 #[.slice SB SC SE] w8 fun e w'=>e=.returned (.int .i64 (n3:Nat))/\Fr nothing w8 w'):=by
      intro w8 hf;have hk:Ee w8 (fun k=>k<w8.heap.size) ⟨rt,⟨Rs,f.p.length,rpc⟩,⟨SB,SC,SE⟩⟩ f:=xz _ _ _ _ _ _ _ uf.out hf (fun _ _=>id) (fun k hk=>Nat.lt_of_lt_of_le hk hf.size);obtain⟨rb3,hb3,hb4⟩:=hk.b;rw[<-hN3];exact Ro f.b ⟨SB,SC,SE⟩ rb3 w8 hb3 hb4 (by omega)
     by_cases acR:200<n2
     ·have FO:Hid (uZ l=(⟨[],[]⟩,4)):=by
       have:=Sz.out;rw[if_pos (by unfold CU;rw[XM];simp[acR])] at this
       exact this
      clear Sz
      go_wp2_with (first
       |(go_at_call 59;rw[<-nK];refine HST.out.mono ?_;rintro e w7 ⟨q,T2,rfl,hO,hR,hq⟩;obtain⟨⟨qa,qn,qc⟩,w8,hrun,Ki,zR,n8,F8⟩:=nH.out q T2 w7 hO hR hq;have nL:qn=(Sd (gW l) f ws).length:=zR.n;rw[XM] at nL;subst nL;have y1:=(F8.cell (p:=⟨fb,1,none⟩) UT M9).trans b1';have y2:=(F8.cell (p:=⟨fb,2,none⟩) UT M9).trans b2';have yl:=Nat.lt_of_lt_of_le UT F8.size;have z0:=Ki.r 0;have z1:=Ki.r 1;have zf0:=Ki.rz 0;have ES:=Ki.rz 1;have zl:=Ki.rl;have Wp:=hide Ki;have Zw:=hide (And.intro zR (And.intro n8 F8));clear hO hR hq Ki zR n8 F8)
       |(at_builtin;go_must (refine aD rfl _ _ 77 rfl _ _ rfl rfl hrun ?_)))
      obtain⟨DN,Ru,g0,g1,EN⟩:=set2 (.slice none 0 0) (.slice none 0 0) z0 z1;rw[<-Ru];clear Ru;exact bodyPost_ret (v:=.tuple #[.agg #[.slice none 0 0,.slice none 0 0],.int .i64 4]) (by simp[results,Tryz.results25,go_sem,g0,g1]) rfl ⟨aN,aN,by rw[FO.out],Wp.out.f.then EN (fun k hk e=>by have:=HI3.out.n.1;omega),by rw[FO.out];exact Eh _⟩
     by_cases h16:16<n3
     ·have FO:Hid (uZ l=(⟨[],[]⟩,4)):=by
       have:=Sz.out;rw[if_pos (by unfold CU;rw[hN3];simp[h16])] at this
       exact this
      clear Sz
      go_wp2_with (first
       |(go_at_call 59;rw[<-nK];refine HST.out.mono ?_;rintro e w7 ⟨q,T2,rfl,hO,hR,hq⟩;obtain⟨⟨qa,qn,qc⟩,w8,hrun,Ki,zR,n8,F8⟩:=nH.out q T2 w7 hO hR hq;have nL:qn=(Sd (gW l) f ws).length:=zR.n;rw[XM] at nL;subst nL;have y1:=(F8.cell (p:=⟨fb,1,none⟩) UT M9).trans b1';have y2:=(F8.cell (p:=⟨fb,2,none⟩) UT M9).trans b2';have yl:=Nat.lt_of_lt_of_le UT F8.size;skip;have Wp:=hide Ki;have Zw:=hide (And.intro zR (And.intro n8 F8));clear hO hR hq Ki zR n8 F8)
       |(at_builtin;go_must (refine aD rfl _ _ 77 rfl _ _ rfl rfl hrun ?_))
       |(go_at_call 60;refine(HHI.out w8 Wp.out.f).mono ?_;rintro e w9 ⟨rfl,gT⟩;have SH:=Wp.out.new gT;have z0:=SH.r 0;have z1:=SH.r 1;have zf0:=SH.rz 0;have ES:=SH.rz 1;have zl:=SH.rl;have Wq:=hide SH;clear SH gT))
      obtain⟨DN,Ru,g0,g1,EN⟩:=set2 (.slice none 0 0) (.slice none 0 0) z0 z1;rw[<-Ru];clear Ru;exact bodyPost_ret (v:=.tuple #[.agg #[.slice none 0 0,.slice none 0 0],.int .i64 4]) (by simp[results,Tryz.results25,go_sem,g0,g1]) rfl ⟨aN,aN,by rw[FO.out],Wq.out.f.then EN (fun k hk e=>by have:=HI3.out.n.1;omega),by rw[FO.out];exact Eh _⟩
     have Ai:Hid (uZ l=Bp (gW l) (l.drop (k+1)) ⟨cs++ [⟨f.p.length,(Bo (gW l) f ws).v,Sd (gW l) f ws⟩],(Bo (gW l) f ws).ws⟩):=by
      have:=Sz.out;rw[if_neg (by unfold CU;rw[XM,hN3];simp;omega)] at this
      exact this
     clear Sz
     go_wp2_with (first
      |(go_at_call 59;rw[<-nK];refine HST.out.mono ?_;rintro e w7 ⟨q,T2,rfl,hO,hR,hq⟩;obtain⟨⟨qa,qn,qc⟩,w8,hrun,Ki,zR,n8,F8⟩:=nH.out q T2 w7 hO hR hq;have nL:qn=(Sd (gW l) f ws).length:=zR.n;rw[XM] at nL;subst nL;have y1:=(F8.cell (p:=⟨fb,1,none⟩) UT M9).trans b1';have y2:=(F8.cell (p:=⟨fb,2,none⟩) UT M9).trans b2';have yl:=Nat.lt_of_lt_of_le UT F8.size;skip;have Wp:=hide Ki;have Zw:=hide (And.intro zR (And.intro n8 F8));clear hO hR hq Ki zR n8 F8)
      |(at_builtin;go_must (refine aD rfl _ _ 77 rfl _ _ rfl rfl hrun ?_))
      |(go_at_call 60;refine(HHI.out w8 Wp.out.f).mono ?_;rintro e w9 ⟨rfl,gT⟩;have SH:=Wp.out.new gT;have v1:=(gT.cell (p:=⟨fb,1,none⟩) yl id).trans y1;have vl:=Nat.lt_of_lt_of_le yl gT.size;have Wq:=hide SH;have nM:=hide gT;clear SH gT))
     have iY:Fr nothing w9 (w9.alloc (.cells #[.int .i64 (f.p.length:Nat),.int .i64 ((Bo (gW l) f ws).v:Nat),.slice qa qn qc] 79)).drew:=((Fr.refl nothing w9).alloc _).drew;have UU:=Wq.out.new iY;obtain⟨⟨ca,cn,cc⟩,rsc,r1,r2,r3,r4⟩:=UU.rows;have YD:=Zw.out.1.fr nM.out (fun _ _=>id);have Na:=Wq.out.pl;have hcl':cs.length<=1000:=by omega
     have hsc:∀b,(ai.v ⟨ca,cn,cc⟩).ownBlock=some b->b<wq.heap.size:=by
      obtain⟨sc3,rs3,q1,q2,_,_⟩:=HI.out.rows;rw[<-hpq] at q1;have e1:=(Zw.out.2.2.cell (p:=⟨pb,0,none⟩) HI3.out.pl (fun e=>e.elim HI3.out.tp (fun e=>absurd HI3.out.pl (Nat.not_lt_of_le e)))).trans q1;have e2:=(nM.out.cell (p:=⟨pb,0,none⟩) Wp.out.pl id).trans e1;have e3:=(iY.cell (p:=⟨pb,0,none⟩) Na id).trans e2;rw[r1] at e3;rw[Option.some.inj e3];exact fun b hb=>(q2.lt b hb).2
     obtain⟨g1,cp1,rG,Lm,Nb,abj⟩:=UU.push (x:=⟨some ⟨w9.heap.size,0,none⟩,1,1⟩) (r:=⟨(f.p.length:Nat),((Bo (gW l) f ws).v:Nat),⟨qa,qn,qc⟩⟩) (d:=⟨f.p.length,(Bo (gW l) f ws).v,Sd (gW l) f ws⟩) r1 r2 r3 r4 ((UR w9 ⟨(f.p.length:Nat),((Bo (gW l) f ws).v:Nat),⟨qa,qn,qc⟩⟩).fr (Fr.refl nothing _).drew (fun _ _=>id)) ⟨rfl,rfl,(YD.fr iY (fun _ _=>id)).sl,fun b hb=>by
      have h1:=YD.lt hb;have h2:=Zw.out.2.1 b hb;have h3:=HI3.out.pl;have h4:=HI3.out.rl;exact⟨Nat.lt_of_lt_of_le h1.2 iY.size,h2,by omega,by omega,fun e=>by have:=hsc b e;omega⟩⟩ hcl'
     replace r1:(w9.alloc (.cells #[.int .i64 (f.p.length:Nat),.int .i64 ((Bo (gW l) f ws).v:Nat),.slice qa qn qc] 79)).drew.cell? ⟨pb,0,none⟩=some (.slice ca cn cc):=r1;have r0:w9.cell? ⟨pb,0,none⟩=some (.slice ca cn cc):=(iY.cell (p:=⟨pb,0,none⟩) Na id).symm.trans r1;have m0:=Wq.out.ri.c2;have ml:=Wq.out.ri.ml;have hfp9:=Wq.out.ri.ml;have HS9:Hid (∀w',Fr nothing w9 w'->w'.cell? ⟨pb,0,none⟩=some (.slice ca cn cc)/\w'.cell? ⟨fb,1,none⟩=some (.slice Rs f.p.length rpc)/\w'.cell? ⟨c.mb,2,none⟩=some (.int .i64 ((Bo (gW l) f ws).v:Nat))):=fun w' hf=>⟨(hf.cell (p:=⟨pb,0,none⟩) Na id).trans r0,(hf.cell (p:=⟨fb,1,none⟩) vl id).trans v1,(hf.cell (p:=⟨c.mb,2,none⟩) ml id).trans m0⟩
     have YE:Hid (rG.cell? ⟨pb,0,none⟩=some (.slice ca cn cc)/\rG.cell? ⟨fb,1,none⟩=some (.slice Rs f.p.length rpc)/\rG.cell? ⟨c.mb,2,none⟩=some (.int .i64 ((Bo (gW l) f ws).v:Nat))):=by
      obtain⟨x1,x2,x3⟩:=HS9.out _ iY;have nfb:¬(ai.v ⟨ca,cn,cc⟩).ownBlock=some fb:=fun e=>by
       have h1:=hsc fb e;have h2:=Dq.out.1;omega
      exact⟨(Nb.cell (p:=⟨pb,0,none⟩) (Nat.lt_of_lt_of_le Na iY.size) (fun e=>(r4 _ e).2.1 rfl)).trans x1,(Nb.cell (p:=⟨fb,1,none⟩) (Nat.lt_of_lt_of_le vl iY.size) nfb).trans x2,(Nb.cell (p:=⟨c.mb,2,none⟩) (Nat.lt_of_lt_of_le ml iY.size) (fun e=>(r4 _ e).1 Wq.out.ri.tm)).trans x3⟩
     have acS:rG.frozen? ⟨pb,0,none⟩=false:=(Nb.frozen (p:=⟨pb,0,none⟩) (Nat.lt_of_lt_of_le Na iY.size) (fun e=>(r4 _ e).2.1 rfl)).trans (UU.pz 0);have acT:pb<rG.heap.size:=Nat.lt_of_lt_of_le (Nat.lt_of_lt_of_le Na iY.size) Nb.size;have uF:=hide abj;have UW:=hide Lm;have Fg:=hide iY;clear UU iY r1 r2 r3 r4 YD hsc Nb abj Lm Zw;refine aS (S:=fun w'=>w'.cell? ⟨pb,0,none⟩=some (.slice ca cn cc)/\w'.cell? ⟨fb,1,none⟩=some (.slice Rs f.p.length rpc)/\w'.cell? ⟨c.mb,2,none⟩=some (.int .i64 ((Bo (gW l) f ws).v:Nat))) (by kernel_rfl) [14] (HS9.out _ (Fr.refl _ _).drew) (fun hHeld=>?_)
     refine bM 0 ?_
     refine bM 1 ?_
     refine bM 2 ?_
     refine bM 3 ?_
     refine bM 4 ?_
     refine bM 5 ?_
     refine bM 9 ?_
     refine jN 6 (fun K hK=>?_)
     go_simp;refine hK.out _ _ hHeld ?_
     clear hK K
     try simp only[Act.put,sA,sZ,sS]
     refine bM 7 ?_
     refine bM 8 ?_
     refine bM 10 ?_
     refine jN 11 (fun K hK=>?_)
     go_simp;refine hK.out _ _ (HS9.out _ Fg.out) ?_
     clear hK K
     try simp only[Act.put,sA,sZ,sS]
     refine jN 12 (fun K hK=>?_)
     refine fT rfl _ _ 22 rfl _ _ (by simp[Act.eval]) (by simp[Act.eval]) UW.out ?_
     refine hK.out _ _ YE.out ?_
     clear hK K
     try simp only[Act.put,sA,sZ,sS]
     have x11:=YE.out.1;refine bM 13 ?_
     refine Al 14 (fun K hK=>?_)
     go_simp;refine hK.out _ _ ?_
     clear hK K
     try simp only[Act.put,sA,sZ,sS]
     refine wpAny_done (by kernel_rfl) ?_ _
     clear UW YE HS9 Fg x11 acS acT hHeld
     go_wp2_with fail
     go_roundw
     case rel=>exact⟨k+1,by omega,by go_num,T2,_,_,_,(by have hz:=uF.out;rw[hcl] at hz;exact hz),Ai.out,by rw[List.length_append,hcl];rfl,by show(dY (gW l) f.b (rX f.p 0 (fun _=>0)) f.p.length ws 0).ws.length+_<=_;omega⟩
     case measure=>simp[intOf];omega
  ·have hke:k=l.length:=by omega
   obtain⟨T,v,cs,ws,hI,hEq,hcl,Zv⟩:=hR.out;rw[hke,List.drop_length,Bp] at hEq;obtain⟨⟨ca,cn,cc⟩,rsc,r1,r2,r3,r4⟩:=hI.rows;obtain⟨⟨wa,wn,wc⟩,u1,u2,u3⟩:=hI.ri.row;have z0:=hI.r 0;have z1:=hI.r 1;have zf0:=hI.rz 0;have ES:=hI.rz 1;have zl:=hI.rl;have p0:=hI.p1;have pz0:=hI.pz 0;have pz1:=hI.pz 1;have pl:=hI.pl;have ml:=hI.ri.ml;have K3:=hI.n.2.2;have hne:¬pb=rb:=fun e=>K3 e.symm;replace r1:wr.cell? ⟨pb,0,none⟩=some (.slice ca cn cc):=r1;replace u1:wr.cell? ⟨c.mb,1,none⟩=some (.slice wa wn wc):=u1;obtain⟨e1,e2,hf1⟩:=kW wr pb 1 (.slice wa wn wc) p0;obtain⟨w9,Zp,g0,g1,gT⟩:=set2 (w:=wr.setCell ⟨pb,1,none⟩ (.slice wa wn wc)) (b:=rb) (.slice ca cn cc) (.slice wa wn wc) ((hf1.cell (p:=⟨rb,0,none⟩) zl (fun e=>K3 e)).trans z0) ((hf1.cell (p:=⟨rb,1,none⟩) zl (fun e=>K3 e)).trans z1);have HF:Hid (Fr (fun k=>k=pb\/k=rb) wr w9):=(hf1.mono (fun _ _ e=> .inl e)).trans (gT.mono (fun _ _ e=> .inr e));have Ay:Ov w9 ⟨ca,cn,cc⟩ ⟨wa,wn,wc⟩ ⟨cs,ws⟩:=by
    have hF:=HF.out;have nsc:∀k,(ai.v ⟨ca,cn,cc⟩).ownBlock=some k->¬(k=pb\/k=rb):=by
     rintro k hk (e|e)
     ·exact(r4 k hk).2.1 e
     ·exact(r4 k hk).2.2 e
    have nsw:∀k,(ai.v ⟨wa,wn,wc⟩).ownBlock=some k->¬(k=pb\/k=rb):=by
     rintro k hk (e|e)
     ·exact hI.tp (e▸(u3 k hk).1)
     ·exact hI.tr (e▸(u3 k hk).1)
    refine⟨⟨rsc,eX Eg (by rw[r3.1];exact aI r2 hF nsc),r3.1,fun i r x h1 h2=>rY _ _ _ _ _ _ _ (r3.2 i r x h1 h2) hF ?_ (fun k hk=>Nat.lt_of_lt_of_le hk.1 hF.size)⟩,eX rV (aI u2 hF nsw),fun b hb=>Nat.lt_of_lt_of_le (r2.lt b hb).2 hF.size,fun b hb=>Nat.lt_of_lt_of_le (u2.lt b hb).2 hF.size⟩
    rintro k hk (e|e)
    ·exact hk.2.2.1 e
    ·exact hk.2.2.2.1 e
   have VY:=hide Ay;have HFk:=hide hI.f;have HN:=hide hI.n;have uF:=hide hEq;clear hR hI r2 r3 r4 u2 u3 hEq hcl Zv hke e1 e2 hf1 gT Ay
   go_wp2_with fail
   rw[<-Zp];clear Zp;exact bodyPost_ret (v:=.tuple #[.agg #[.slice ca cn cc,.slice wa wn wc],.int .i64 0]) (by simp[results,Tryz.results25,go_sem,g0,g1]) rfl ⟨⟨ca,cn,cc⟩,⟨wa,wn,wc⟩,by rw[uF.out],HFk.out.then HF.out (fun k hk e=>by have:=HN.out;omega),by rw[uF.out];exact VY.out⟩
end
section
theorem YF (l:List Fn) (s:ai) (rs:List qH) (w:World) (hS:Sl ug 3 w s.v rs) (hE:Each (Ee w (fun k=>k<w.heap.size)) rs l) (hsb:∀b,s.v.ownBlock=some b->b<w.heap.size) (hM:∀f∈l,FnR l f) (hN:xB l<=50000) (h5:l.length<=5) (hf:∀f∈l,∀k t a x y,St.mk k t a x y∈f.b->k≠3/\k≠4):
 Calls Tryz.prog 25 #[.slice s.a s.n s.c] w (MkP w (uZ l)):=Kh l (fun f hm=>FJ l f.b (hf f hm)) s rs w hS hE hsb hM hN h5
end
section
def q9 {α:Type} (one:Reader α) (Sh:α->Prop) (c:α->Nat):Prop:=∀l,(one l 0).z=0->Sh (one l 0).v/\c (one l 0).v+(one l 0).l.length<=l.length
theorem kL {α:Type} {one:Reader α} {Sh:α->Prop} {c:α->Nat} (h:q9 one Sh c):∀n,q9 (aB one n) (fun v=>∀x∈v,Sh x) (fun v=>(v.map c).sum)
 |0,l=>fun _=>⟨fun x hx=>by simp[aB] at hx,by simp[aB]⟩
 |n+1,l=>by
  have h1:=aG l;unfold aB;rw[if_pos rfl];split
  ·intro _;refine⟨fun x hx=>by simp at hx,?_⟩
   simp
   omega
  ·intro hz;have hz':(aB one n (one (skip l) 0).l (one (skip l) 0).z).z=0:=hz
   by_cases h0:(one (skip l) 0).z=0
   ·obtain⟨a1,a2⟩:=h (skip l) h0;rw[h0] at hz';obtain⟨b1,b2⟩:=kL h n _ hz';simp only[h0];refine⟨fun x hx=>?_,?_⟩
    ·rcases List.mem_cons.1 hx with rfl|hx
     ·exact a1
     ·exact b1 x hx
    ·simp only[List.map_cons,List.sum_cons] at b2⊢;omega
   ·rw[eD n _ _ h0] at hz';exact absurd hz' h0
theorem zS {α:Type} {one:Reader α} {Sh:α->Prop} {c:α->Nat} (h:q9 one Sh c) (hk:gG one):∀n,q9 (times one n) (fun v=>∀x∈v,Sh x) (fun v=>(v.map c).sum)
 |0,l=>fun _=>⟨fun x hx=>by simp[times] at hx,by simp[times]⟩
 |n+1,l=>by
  unfold times;intro hz;have hz':(times one n (one l 0).l (one l 0).z).z=0:=hz
  by_cases h0:(one l 0).z=0
  ·obtain⟨a1,a2⟩:=h l h0;rw[h0] at hz';obtain⟨b1,b2⟩:=zS h hk n _ hz';simp only[h0];refine⟨fun x hx=>?_,?_⟩
   ·rcases List.mem_cons.1 hx with rfl|hx
    ·exact a1
    ·exact b1 x hx
   ·simp only[List.map_cons,List.sum_cons] at b2⊢;omega
  ·rw[kR hk n _ _ h0] at hz';exact absurd hz' h0
theorem zT:∀l:List Ex,iJ l=(l.map rF).sum
 |[]=>by simp[iJ]
 |x::l=>by rw[iJ,zT l];simp
theorem tJ:∀l:List St,jq l=(l.map Ap).sum
 |[]=>by simp[jq]
 |x::l=>by rw[jq,tJ l];simp
theorem rq {w:Bs} (h:isName w=true):w.length<=1500:=by
 unfold isName at h;simp only[Bool.and_eq_true,decide_eq_true_eq] at h;omega
theorem zU {z e:Int} (he:e≠0):¬bad z e=0:=nQ z e he
theorem uR:q9 name (fun t=>t.length<=1500) (fun _=>1):=by
 intro l h;have hl:=tX l h;refine⟨?_,by dsimp only;omega⟩
 have h':(if isName (word l 0).v then(word l 0).z else bad (word l 0).z 7)=0:=h
 by_cases hn:isName (word l 0).v=true
 ·exact rq hn
 ·rw[if_neg hn] at h';exact absurd h' (zU (by decide))
theorem Rv {w:Bs} {z:Int} (h:eu w z=0):um (kQ w)/\rF (kQ w)=1:=by
 unfold eu at h;unfold kQ;split
 ·exact⟨.mk (fun _=>rfl) (by simp) (fun x hx=>by simp at hx),by simp[rF,iJ]⟩
 ·rename_i hn
  rw[hn] at h;simp only at h
  by_cases hw:isName w=true
  ·exact⟨.mk (fun _=>rfl) (rq hw) (fun x hx=>by simp at hx),by simp[rF,iJ]⟩
  ·rw[if_neg hw] at h;exact absurd h (zU (by decide))
theorem vI {l:Bs} (h:(single l 0).z=0):um (single l 0).v/\rF (single l 0).v+(single l 0).l.length<=l.length:=by
 have h1:eu (word l 0).v (word l 0).z=0:=h;have h2:=pF l (tY h1);obtain⟨a,b⟩:=Rv h1;refine⟨a,?_⟩
 show rF (kQ (word l 0).v)+(word l 0).l.length<=_
 omega
theorem FP {t:Bs} (h:(quoted t 0).z=0):um (quoted t 0).v/\rF (quoted t 0).v+(quoted t 0).l.length<=t.length+1:=by
 have hs:=mJ t 0
 revert h hs
 unfold quoted;split
 ·intro h;exact absurd h (nQ 0 8 (by decide))
 ·rename_i a r hd
  intro h hs;simp only at h hs⊢
  by_cases hw:isWord (t.takeWhile Gn)=true
  ·have hl:(t.takeWhile Gn).length<=1500:=by
    unfold isWord at hw;simp only[Bool.and_eq_true,decide_eq_true_eq] at hw;omega
   exact⟨.mk (fun _=>rfl) hl (fun x hx=>by simp at hx),by simp[rF,iJ];omega⟩
  ·rw[if_neg hw] at h;exact absurd h (zU (by decide))
theorem FQ (w:Bs):((fA w).1=1\/(fA w).1=2\/(fA w).1=3\/(fA w).1=9)->(fA w).2.2=some 0:=by
 unfold fA
 repeat' split
 all_goals simp
theorem FR {args:Reader (List Ex)} (hk:gG args) (ha:q9 args (fun v=>∀x∈v,um x) (fun v=>(v.map rF).sum)) {t:Bs} (h:(formed args t 0).z=0):um (formed args t 0).v/\rF (formed args t 0).v+(formed args t 0).l.length<=t.length+1:=by
 have hws:=bU t 0;have h1:(if fI (word t 0).v (args (word t 0).l (j5 (word t 0).v (word t 0).z)).v.length then bad (args (word t 0).l (j5 (word t 0).v (word t 0).z)).z 5 else(args (word t 0).l (j5 (word t 0).v (word t 0).z)).z)=0:=h
 by_cases hm:fI (word t 0).v (args (word t 0).l (j5 (word t 0).v (word t 0).z)).v.length=true
 ·rw[if_pos hm] at h1;exact absurd h1 (zU (by decide))
 ·rw[if_neg hm] at h1
  by_cases hh:j5 (word t 0).v (word t 0).z=0
  ·rw[hh] at h1 hm;obtain⟨a1,a2⟩:=ha _ h1;show um (Ky (word t 0).v (args (word t 0).l (j5 (word t 0).v (word t 0).z)).v)/\rF (Ky (word t 0).v (args (word t 0).l (j5 (word t 0).v (word t 0).z)).v)+(args (word t 0).l (j5 (word t 0).v (word t 0).z)).l.length<=_
   rw[hh];refine⟨.mk (fun hx=>?_) ?_ a1,?_⟩
   ·have:=FQ _ hx;unfold fI at hm;rw[this] at hm;simpa using hm
   ·by_cases hf:(fA (word t 0).v).2.2=none
    ·rw[if_pos hf];unfold j5 at hh
     by_cases hn:isName (word t 0).v=true
     ·exact rq hn
     ·rw[if_pos ⟨hf,by simpa using hn⟩] at hh;exact absurd hh (zU (by decide))
    ·rw[if_neg hf];simp
   ·unfold Ky;rw[rF,zT];simp only at a2;omega
  ·rw[hk _ _ hh] at h1;exact absurd h1 hh
theorem Cq (N:Nat):∀k,q9 (expr N k) um rF
 |0,l=>fun h=>absurd h (nQ 0 9 (by decide))
 |k+1,l=>by
  have h:=aG l;unfold expr;rw[if_pos rfl];split
  ·intro hz;obtain⟨a,b⟩:=vI hz;exact⟨a,Nat.le_trans b (by simp)⟩
  ·rename_i c t hs
   rw[hs] at h;simp at h
   split
   ·intro hz;obtain⟨a,b⟩:=FP hz;exact⟨a,by omega⟩
   ·split
    ·intro hz;obtain⟨a,b⟩:=FR (eD N) (kL (Cq N k) N) hz;exact⟨a,by omega⟩
    ·intro hz;obtain⟨a,b⟩:=vI hz;exact⟨a,by simp at b;omega⟩
theorem DC (k:Nat):q9 (optName k) (fun t=>t.length<=1500) (fun _=>0):=by
 intro l;unfold optName;split
 ·intro h;obtain⟨a,b⟩:=uR l h;exact⟨a,by dsimp only at b⊢;omega⟩
 ·intro _;exact⟨by simp,by simp⟩
theorem Nc {nest:Reader (List St)} (hk:gG nest) (hn:q9 nest (fun v=>∀x∈v,uo x) (fun v=>(v.map Ap).sum)) (k:Nat):
 q9 (fG nest k) (fun v=>(∀s∈v.1,uo s)/\(∀s∈v.2,uo s)/\(k≠3->k≠4->v.1=[])/\(k≠3->v.2=[])) (fun v=>(v.1.map Ap).sum+(v.2.map Ap).sum):=by
 intro l;unfold fG;split
 ·intro hz;have hz1:(must 41 (nest (must 40 (nest (must 40 l 0).l (must 40 l 0).z).l (nest (must 40 l 0).l (must 40 l 0).z).z).l (must 40 (nest (must 40 l 0).l (must 40 l 0).z).l (nest (must 40 l 0).l (must 40 l 0).z).z).z).l (nest (must 40 (nest (must 40 l 0).l (must 40 l 0).z).l (nest (must 40 l 0).l (must 40 l 0).z).z).l (must 40 (nest (must 40 l 0).l (must 40 l 0).z).l (nest (must 40 l 0).l (must 40 l 0).z).z).z).z).z=0:=hz;simp only;have s1:=aJ 40 l 0;generalize must 40 l 0=m at hz1 s1⊢
  by_cases h1:¬(m.z=0)
  ·rw[hk _ _ h1,bJ 40 _ _ h1,hk _ _ h1,bJ 41 _ _ h1] at hz1;exact absurd hz1 h1
  replace h1:=Decidable.not_not.1 h1;rw[h1] at hz1⊢;have f1:=hn m.l;generalize nest m.l 0=x at hz1 f1⊢
  by_cases h2:¬(x.z=0)
  ·rw[bJ 40 _ _ h2,hk _ _ h2,bJ 41 _ _ h2] at hz1;exact absurd hz1 h2
  replace h2:=Decidable.not_not.1 h2;rw[h2] at hz1⊢;have s2:=aJ 40 x.l 0;generalize must 40 x.l 0=m2 at hz1 s2⊢
  by_cases h3:¬(m2.z=0)
  ·rw[hk _ _ h3,bJ 41 _ _ h3] at hz1;exact absurd hz1 h3
  replace h3:=Decidable.not_not.1 h3;rw[h3] at hz1⊢;have f2:=hn m2.l;generalize nest m2.l 0=y at hz1 f2⊢
  by_cases h4:¬(y.z=0)
  ·rw[bJ 41 _ _ h4] at hz1;exact absurd hz1 h4
  replace h4:=Decidable.not_not.1 h4;rw[h4];have s3:=aJ 41 y.l 0;obtain⟨a1,a2⟩:=f1 h2;obtain⟨b1,b2⟩:=f2 h4
  rename_i k3
  refine⟨⟨a1,b1,fun h=>absurd k3 h,fun h=>absurd k3 h⟩,?_⟩
  simp only at a2 b2;omega
 ·split
  ·rename_i k3 k4
   intro hz;obtain⟨a1,a2⟩:=hn l hz;refine⟨⟨a1,fun s hs=>by simp at hs,fun _ h=>absurd k4 h,fun _=>rfl⟩,?_⟩
   simp only[List.map_nil,List.sum_nil] at a2⊢;omega
  ·intro hz;refine⟨⟨fun s hs=>by simp at hs,fun s hs=>by simp at hs,fun _ _=>rfl,fun _=>rfl⟩,?_⟩
   have:=aJ 41 l 0;simpa using this
theorem Kj {e:Reader Ex} {nest:Reader (List St)} (ke:gG e) (he:q9 e um rF) (hk:gG nest) (hn:q9 nest (fun v=>∀x∈v,uo x) (fun v=>(v.map Ap).sum)) (k:Nat) {l:Bs} (h:(parts e nest k l 0).z=0):uo (parts e nest k l 0).v/\Ap (parts e nest k l 0).v+(parts e nest k l 0).l.length<=l.length+1:=by
 have hz:(fG nest k (times e (aA k) (optName k l 0).l (optName k l 0).z).l (times e (aA k) (optName k l 0).l (optName k l 0).z).z).z=0:=h;clear h;unfold parts;simp only;have f1:=DC k l;generalize optName k l 0=n at hz f1⊢
 by_cases h1:¬(n.z=0)
 ·rw[kR ke _ _ _ h1,qG hk k _ _ h1] at hz;exact absurd hz h1
 replace h1:=Decidable.not_not.1 h1;rw[h1] at hz⊢;have f2:=zS he ke (aA k) n.l;generalize times e (aA k) n.l 0=a at hz f2⊢
 by_cases h2:¬(a.z=0)
 ·rw[qG hk k _ _ h2] at hz;exact absurd hz h2
 replace h2:=Decidable.not_not.1 h2;rw[h2] at hz⊢;have f3:=Nc hk hn k a.l;generalize fG nest k a.l 0=r at hz f3⊢;obtain⟨a1,a2⟩:=f1 h1;obtain⟨b1,b2⟩:=f2 h2;obtain⟨⟨c1,c2,c3,c4⟩,c5⟩:=f3 hz;refine⟨.mk (fun x y=>c3 (by omega) (by omega)) (fun x=>c4 (by omega)) a1 b1 c1 c2,?_⟩
 rw[Ap,zT,tJ,tJ];simp only at a2 b2 c5;omega
theorem Cr (N:Nat):∀k,q9 (stmt N k) uo Ap
 |0,l=>fun h=>absurd h (nQ 0 9 (by decide))
 |k+1,l=>by
  unfold stmt;rw[if_pos rfl];intro h;have hz:(parts (expr N k) (aB (stmt N k) N) (kindOf (word (must 40 l 0).l (must 40 l 0).z).v) (word (must 40 l 0).l (must 40 l 0).z).l (if kindOf (word (must 40 l 0).l (must 40 l 0).z).v=0 then bad (word (must 40 l 0).l (must 40 l 0).z).z 1 else(word (must 40 l 0).l (must 40 l 0).z).z)).z=0:=h;unfold D5;simp only;clear h;have s1:=tV 40 l;generalize must 40 l 0=m at hz s1⊢;have kp:=uV (mK N k) (eD (one:=stmt N k) N)
  by_cases h1:¬(m.z=0)
  ·have hw:=qE m.l _ h1;have hb:(if kindOf (word m.l m.z).v=0 then bad (word m.l m.z).z 1 else(word m.l m.z).z)=m.z:=by
    rw[hw];split
    ·exact lD h1
    ·rfl
   rw[hb,kp _ _ _ h1] at hz;exact absurd hz h1
  replace h1:=Decidable.not_not.1 h1;rw[h1] at hz⊢;have s2:=bU m.l 0;generalize word m.l 0=w at hz s2⊢
  by_cases h2:¬((if kindOf w.v=0 then bad w.z 1 else w.z)=0)
  ·rw[kp _ _ _ h2] at hz;exact absurd hz h2
  replace h2:=Decidable.not_not.1 h2;rw[h2] at hz⊢;obtain⟨a1,a2⟩:=Kj (mK N k) (Cq N k) (eD N) (kL (Cr N k) N) _ hz;have:=s1 h1;exact⟨a1,by omega⟩
theorem UX (N:Nat):q9 (fn N) Tt (fun f=>f.p.length+jq f.b):=by
 intro l h;have hz:(aB (stmt N 11) N (aB name N (must 40 (name (must 40 l 0).l (must 40 l 0).z).l (name (must 40 l 0).l (must 40 l 0).z).z).l (must 40 (name (must 40 l 0).l (must 40 l 0).z).l (name (must 40 l 0).l (must 40 l 0).z).z).z).l (aB name N (must 40 (name (must 40 l 0).l (must 40 l 0).z).l (name (must 40 l 0).l (must 40 l 0).z).z).l (must 40 (name (must 40 l 0).l (must 40 l 0).z).l (name (must 40 l 0).l (must 40 l 0).z).z).z).z).z=0:=h;clear h;unfold fn;simp only;have s1:=aJ 40 l 0;generalize must 40 l 0=m at hz s1⊢;have K:=eD (one:=stmt N 11) N;have K2:=eD (one:=name) N
 by_cases h1:¬(m.z=0)
 ·rw[qF _ _ h1,bJ 40 _ _ h1,K2 _ _ h1,K _ _ h1] at hz;exact absurd hz h1
 replace h1:=Decidable.not_not.1 h1;rw[h1] at hz⊢;have f1:=uR m.l;generalize name m.l 0=t at hz f1⊢
 by_cases h2:¬(t.z=0)
 ·rw[bJ 40 _ _ h2,K2 _ _ h2,K _ _ h2] at hz;exact absurd hz h2
 replace h2:=Decidable.not_not.1 h2;rw[h2] at hz⊢;have s2:=aJ 40 t.l 0;generalize must 40 t.l 0=b at hz s2⊢
 by_cases h3:¬(b.z=0)
 ·rw[K2 _ _ h3,K _ _ h3] at hz;exact absurd hz h3
 replace h3:=Decidable.not_not.1 h3;rw[h3] at hz⊢;have f2:=kL uR N b.l;generalize aB name N b.l 0=p at hz f2⊢
 by_cases h4:¬(p.z=0)
 ·rw[K _ _ h4] at hz;exact absurd hz h4
 replace h4:=Decidable.not_not.1 h4;rw[h4] at hz⊢;have f3:=kL (Cr N 11) N p.l;generalize aB (stmt N 11) N p.l 0=s at hz f3⊢;obtain⟨a1,a2⟩:=f1 h2;obtain⟨b1,b2⟩:=f2 h4;obtain⟨c1,c2⟩:=f3 hz;refine⟨⟨a1,b1,c1⟩,?_⟩
 simp only at a2 b2 c2⊢;rw[tJ];have:∀l:List Bs,(l.map fun _=>1).sum=l.length:=by
  intro l
  induction l with
  |nil=>rfl
  |cons x l ih=>simp only[List.map_cons,List.sum_cons,List.length_cons,ih];omega
 have:=this p.v;omega
theorem FT (N:Nat):∀n,q9 (j6 N n) (fun v=>∀f∈v,Tt f) xB
 |0,l=>fun _=>⟨fun x hx=>by simp[j6] at hx,by simp[j6,xB]⟩
 |n+1,l=>by
  have hs:=aG l;unfold j6;rw[if_pos rfl];split
  ·intro _;exact⟨fun x hx=>by simp at hx,by simp[xB]⟩
  ·intro hz;have hz1:(j6 N n (fn N (skip l) 0).l (fn N (skip l) 0).z).z=0:=hz;clear hz;simp only;have f1:=UX N (skip l);generalize fn N (skip l) 0=r at hz1 f1⊢
   by_cases h1:¬(r.z=0)
   ·have:(j6 N n r.l r.z).z=r.z:=by
     cases n with
     |zero=>rfl
     |succ n=>unfold j6;rw[if_neg h1]
    rw[this] at hz1;exact absurd hz1 h1
   replace h1:=Decidable.not_not.1 h1;rw[h1] at hz1⊢;obtain⟨a1,a2⟩:=f1 h1;obtain⟨b1,b2⟩:=FT N n r.l hz1;refine⟨fun f hf=>?_,?_⟩
   ·rcases List.mem_cons.1 hf with rfl|hf
    ·exact a1
    ·exact b1 f hf
   ·unfold xB at b2⊢;simp only[List.map_cons,List.sum_cons] at a2 b2⊢;omega
end
end Go.Proofs.YtbcadjgpcfmkfaaGreatDoor
