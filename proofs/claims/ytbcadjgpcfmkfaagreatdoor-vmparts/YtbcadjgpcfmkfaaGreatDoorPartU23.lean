/- VHeights; RWord. -/
import Derived.Test.YtbcadjgpcfmkfaaGreatDoorPartU8
import Derived.Test.YtbcadjgpcfmkfaaGreatDoorPartU7
import Derived.Test.YtbcadjgpcfmkfaaGreatDoorPartU1
import Derived.Test.YtbcadjgpcfmkfaaGreatDoorPartU9
set_option maxHeartbeats 0
set_option maxRecDepth 100000
set_option linter.unusedSimpArgs false
namespace Go.Proofs.YtbcadjgpcfmkfaaGreatDoor
open Go Go.RowKit
section
theorem iZ {w:World} {s:ai} {l:List Int} (h:Sl encZ 1 w s.v l) {i:Nat} {z:Int} (hi:l[i]?=some z):∃b off,s.a=some ⟨b,off,none⟩/\b<w.heap.size/\w.cell? ⟨b,off+i,none⟩=some (.int .i64 z):=by
 obtain⟨ao,cap,he,_,hc⟩:=h;obtain⟨b,off,rfl,hb,hcell⟩:=hc i z hi;simp only[Value.slice.injEq] at he;have:=hcell 0 _ rfl;exact⟨b,off,he.1,hb,by simpa using this⟩
def HtP (w:World) (res:List Int×Int) (e:Ending) (w':World):Prop:=∃sl:ai,e=.returned (.tuple #[.slice sl.a sl.n sl.c,.int .i64 res.2])/\Fr nothing w w'/\Sl encZ 1 w' sl.v res.1
def V3 (w0:World) (hb cb:Nat) (ca:Value) (ins:List In) (res:List Int×Int) (m:Nat) (v8 v6 v7:Value) (w:World):Prop:=
 ∃(k:Nat) (qa qh:ai) (Q:List (Int×Int)) (h:List Int),v8=.int .i64 k/\v6=.slice qa.a qa.n qa.c/\v7=.slice qh.a qh.n qh.c/\GM w0 hb cb ca h (Q.map Prod.fst) (Q.map Prod.snd) qa qh w/\h.length=ins.length/\k<=Q.length/\Q.length+2*rZ h<=1+2*ins.length/\(∀p∈Q,0<=p.2/\p.2<=16)/\2*rZ h+(Q.length-k)<m/\vM ins m h (Q.drop k)=res
theorem vD (ins:List In) (np nv:Int) (s:ai) (w:World) (hS:Sl encI 3 w s.v ins) (hl:ins.length<=100000) (p9:∀i∈ins,i.op=17->0<=i.b) (hop:∀i∈ins,-9223372036854775808<=i.op/\i.op<=9223372036854775807):
 Calls Tryz.prog 37 #[.agg #[.int .i64 np,.int .i64 nv,.slice s.a s.n s.c]] w (HtP w (aj ins)):=by
 obtain⟨hsn,hsm⟩:=ay hS;obtain⟨sa,sn,sc⟩:=s;simp only at hsn;subst hsn;obtain⟨j0,hj0,hy0,hy1,hy2⟩:=info_parts KL;have hF1:Fr nothing w (w.alloc (.cells #[.int .i64 np,.int .i64 nv,.slice sa ins.length sc] 79)):=(Fr.refl _ _).alloc _;have hc:=af (Fr.refl nothing (w.alloc (.cells #[.int .i64 np,.int .i64 nv,.slice sa ins.length sc] 79))) id;have hs1:(w.alloc (.cells #[.int .i64 np,.int .i64 nv,.slice sa ins.length sc] 79)).heap.size=w.heap.size+1:=by simp
 obtain⟨w1,hw1⟩:∃x,x=w.alloc (.cells #[.int .i64 np,.int .i64 nv,.slice sa ins.length sc] 79):=⟨_,rfl⟩
 rw[<-hw1] at hF1 hc hs1;obtain⟨w2,hmk,hrow,hgr⟩:=run_makeSlice_full (P:=Tryz.prog) w1 w.heap.size 92 3 j0 _ 1 Tryz.underlying92 hj0 hy0 hy1 .i64 .i64 ins.length (by omega) (by rw[hy2];omega) (by unfold maxLen;omega) hF1.size
 have EN:Fr nothing w1 w2:=(Fr.refl nothing w1).grown hgr (fun k hk=>by cases hk);have hF2:Fr nothing w w2:=hF1.trans EN;rw[hs1] at hmk hrow;have c2:=hc.1 2;have cl:=hc.2.2;have hlen:(madeCells (Value.cells (.int .i64 0)) (ins.length*1)).toList.length=ins.length:=by
  rw[Array.length_toList,size_madeCells];omega
 generalize(madeCells (Value.cells (.int .i64 0)) (ins.length*1)).toList=vs0 at hrow hlen;have x2:=(EN.cell (p:=⟨w.heap.size,2,none⟩) cl id).trans c2;have xl:=Nat.lt_of_lt_of_le cl EN.size;obtain⟨cb,hcb⟩:∃x,x=w.heap.size:=⟨_,rfl⟩
 obtain⟨hb,hhb⟩:∃x,x=w.heap.size+1:=⟨_,rfl⟩
 rw[<-hhb] at hmk hrow;rw[<-hcb] at x2 xl;have Dq:=hide (And.intro hcb hhb);have zx:=hide hrow;have bq:=hide hF2;have HS:=hide hS;have HX2:=hide (And.intro x2 xl);have Qr:w.alloc (.cells #[.int .i64 np,.int .i64 nv,.slice sa ins.length sc] 79)=w1:=hw1.symm;clear hF1 EN hF2 hc hs1 hgr hrow hS hw1 hhb x2 xl hj0 hy0 hy1 hy2 hsm
 go_enter Tryz.func37,Tryz.ntmps37
 go_wp2
 rw[<-hcb];clear hcb c2 cl Qr hmk
 go_loopw [20,5] (fun i _ wv=>∃(j:Nat),j<=ins.length/\i=.int .i64 j/\Hid (∃vs:List Value,vs.length=ins.length/\(∀t,t<j->vs[t]?=some (.int .i64 (-1)))/\wv.ownsRow w.heap.size 3 1 (.slice (some ⟨hb,0,none⟩) ins.length ins.length) ins.length vs/\Fr (fun k=>k=hb) w2 wv)) (fun i _ _=>ins.length-(intOf i).toNat)
 case atStart=>exact⟨0,Nat.zero_le _,rfl,vs0,hlen,fun t ht=>by omega,zx.out,Fr.refl _ _⟩
 case round=>
  obtain⟨j,hj,rfl,hR⟩:=hrel;obtain⟨vs,hv1,hv2,hv3,hv4⟩:=hR.out
  by_cases hjl:j<ins.length
  ·have hcell:=hv3.cellAt j (by omega);rw[List.getElem?_eq_getElem (by omega)] at hcell;have hfz:=hv3.frozenAt j;have hlt:=lt_of_cell hcell;generalize vs[j]'(by omega)=old at hcell;have nH:Hid (∃vs:List Value,vs.length=ins.length/\(∀t,t<j+1->vs[t]?=some (.int .i64 (-1)))/\(wr.setCell ⟨hb,j,none⟩ (.int .i64 (-1))).ownsRow w.heap.size 3 1 (.slice (some ⟨hb,0,none⟩) ins.length ins.length) ins.length vs/\Fr (fun k=>k=hb) w2 (wr.setCell ⟨hb,j,none⟩ (.int .i64 (-1)))):=by
    refine⟨vs.set j (.int .i64 (-1)),by rw[List.length_set];exact hv1,fun t ht=>?_,(hv3.stored j _).1,hv4.setCell (p:=⟨hb,j,none⟩) (.inl rfl) _⟩
    by_cases e:t=j
    ·rw[e,List.getElem?_set_self (by omega)]
    ·rw[List.getElem?_set_ne (fun h=>e h.symm)];exact hv2 t (by omega)
   clear hR hv1 hv2 hv3 hv4
   go_wp2
   go_roundw
   case rel=>exact⟨j+1,by omega,by go_num,nH.out⟩
   case measure=>simp[intOf];omega
  ·have vX:j=ins.length:=by omega
   have hvs:vs=(List.replicate ins.length (-1:Int)).flatMap encZ:=by
    rw[KM,List.map_replicate];apply List.ext_getElem?
    intro t
    by_cases ht:t<ins.length
    ·rw[hv2 t (by omega),List.getElem?_replicate,if_pos ht]
    ·rw[List.getElem?_eq_none (by omega),List.getElem?_eq_none (by simp;omega)]
   rw[hvs] at hv3;have iT:Fr nothing w wr:=bq.out.then hv4 (fun k hk e=>by have:=Dq.out;omega)
   have hcc:=(hv4.cell (p:=⟨cb,2,none⟩) HX2.out.2 (fun e=>by have h1:cb=hb:=e;have:=Dq.out;omega)).trans HX2.out.1;obtain⟨ca,hca⟩:∃ca,ca=Value.slice sa ins.length sc:=⟨_,rfl⟩
   have XJ:wr.cell? ⟨cb,2,none⟩=some ca:=by rw[hca];exact hcc
   have t1:(wr.alloc (lS 0)).heap.size=wr.heap.size+1:=by simp
   have qL:Fr nothing wr (wr.alloc (lS 0)):=(Fr.refl _ _).alloc _;have jf:Fr nothing (wr.alloc (lS 0)) ((wr.alloc (lS 0)).alloc (lS 0)):=(Fr.refl _ _).alloc _;have hbl:=oo.lit (base:=w.heap.size) (wr.alloc (lS 0)) 0 (Nat.le_trans iT.size qL.size);rw[t1] at hbl;have hlr:hb<wr.heap.size:=(hv3.lt hb rfl).2;have hcr:cb<wr.heap.size:=lt_of_cell XJ;have aaF:GM w hb cb ca (List.replicate ins.length (-1)) [0] [0] ⟨some ⟨wr.heap.size,0,none⟩,1,1⟩ ⟨some ⟨wr.heap.size+1,0,none⟩,1,1⟩ ((wr.alloc (lS 0)).alloc (lS 0)):=by
    refine⟨(iT.trans qL).trans jf,(oo.lit wr 0 iT.size).fr jf (fun _ _=>id),hbl,?_,((qL.trans jf).cell (p:=⟨cb,2,none⟩) hcr id).trans XJ,by have:=Dq.out;omega,fun k hk=>?_,fun k hk=>?_⟩
    ·rw[List.length_replicate];exact aI hv3 (qL.trans jf) (fun _ _=>id)
    ·have hk2:wr.heap.size=k:=Option.some.inj hk;refine⟨by omega,by omega,fun e=>?_⟩
     have:wr.heap.size+1=k:=Option.some.inj e;omega
    ·have hk2:wr.heap.size+1=k:=Option.some.inj hk;exact⟨by omega,by omega⟩
   have hun:rZ (List.replicate ins.length (-1))<=ins.length:=by have:=Ei (List.replicate ins.length (-1));simpa using this
   have ach:Hid (V3 w hb cb ca ins (aj ins) (2*ins.length+2) (.int .i64 (0:Nat)) (.slice (some ⟨wr.heap.size,0,none⟩) 1 1) (.slice (some ⟨wr.heap.size+1,0,none⟩) 1 1) ((wr.alloc (lS 0)).alloc (lS 0))):=by
    refine⟨0,⟨some ⟨wr.heap.size,0,none⟩,1,1⟩,⟨some ⟨wr.heap.size+1,0,none⟩,1,1⟩,[(0,0)],List.replicate ins.length (-1),rfl,rfl,rfl,aaF,by simp,by simp,by simp only[List.length_singleton];omega,fun p hp=>?_,by simp only[List.length_singleton];omega,rfl⟩
    rw[List.mem_singleton.1 hp];exact⟨by decide,by decide⟩
   clear hR hv1 hv2 hv3 hv4 hvs vX iT hcc XJ t1 qL jf hbl aaF hun hlr hcr
   go_wp2_with fail
   generalize(wr.alloc (lS 0)).alloc (lS 0)=w4 at*
   go_loopw [8,6,7,9,10,11,12,13] (fun v8 v6 v7 _ _ _ _ _ wv=>∃m,V3 w hb cb ca ins (aj ins) m v8 v6 v7 wv) (fun v8 v6 v7 _ _ _ _ _ wv=>least (fun m=>V3 w hb cb ca ins (aj ins) m v8 v6 v7 wv))
   case atStart=>exact⟨_,ach.out⟩
   case round=>
    obtain⟨hm,-⟩:=xG hrel;generalize hm0:least _=m0 at hm;have MJ:=hide hm0;clear hm0 hrel;obtain⟨k,qa,qh,Q,h,rfl,rfl,rfl,st,hlen,hkQ,hQl,DW,hfuel,hgo⟩:=hm;have nL:=st.a.n;have hqm:=st.b.n;rw[List.length_map] at nL hqm;obtain⟨Xc,qan,Y7⟩:=qa;obtain⟨qha,qhn,Y8⟩:=qh;simp only at nL hqm;subst nL hqm
    by_cases hkl:k<Q.length
    ·have hQk:Q[k]?=some Q[k]:=List.getElem?_eq_getElem hkl;have hdr:Q.drop k=Q[k]::Q.drop (k+1):=List.drop_eq_getElem_cons hkl;have hmem:Q[k]∈Q:=List.getElem_mem hkl;generalize Q[k]=pn at hQk hdr hmem;obtain⟨a,n⟩:=pn;have hn2:=DW _ hmem;simp only at hn2;rw[hdr] at hgo;obtain⟨f,rfl⟩:∃f,m0=f+1:=⟨m0-1,by omega⟩
     rw[vM] at hgo;have stw:=st.new (Fr.refl nothing wr).drew;obtain⟨ga,oa,e1,MK,ua⟩:=iZ (s:=⟨Xc,Q.length,Y7⟩) stw.a.sl (i:=k) (z:=a) (by rw[List.getElem?_map,hQk];rfl)
     obtain⟨gh,oh,e2,dgh,uh⟩:=iZ (s:=⟨qha,Q.length,Y8⟩) stw.b.sl (i:=k) (z:=n) (by rw[List.getElem?_map,hQk];rfl);simp only at e1 e2;subst e1 e2;have uG:=hide stw;have EO:=hide hgo;have HST':=hide st;clear st stw hgo hQk hmem
     go_wp2_with fail
     refine wp_region_held_drew (S:=fun w'=>w'.cell? ⟨ga,oa+k,none⟩=some (.int .i64 a)/\w'.cell? ⟨gh,oh+k,none⟩=some (.int .i64 n)) (by kernel_rfl) ⟨ua,uh⟩ (fun hHeld=>?_)
     refine tk 0 ?_
     refine tk 1 ?_
     refine tk 2 ?_
     refine tk 3 ?_
     refine tk 4 ?_
     refine tk 5 ?_
     refine tk 6 ?_
     refine tk 7 ?_
     refine tk 8 ?_
     refine tk 9 ?_
     refine wpAnyH_done (by kernel_rfl) ?_ _
     clear hHeld ua uh;generalize hwd:wr.drew=wd at*
     by_cases ha0:a<0
     ·have Ai:Hid (aj ins=([],8)):=by
       have:=EO.out;rw[if_pos (.inl ha0)] at this;exact this.symm
      have HF:=hide uG.out.f;clear EO
      go_wp2_with fail
      exact bodyPost_ret (v:=.tuple #[.slice none 0 0,.int .i64 8]) (by simp[results,Tryz.results37,go_sem]) rfl ⟨aN,by rw[Ai.out],HF.out,by rw[Ai.out];exact gN _ _ _⟩
     obtain⟨p,rfl⟩:∃p:Nat,a=p:=⟨a.toNat,by omega⟩
     by_cases hpl:ins.length<=p
     ·have Ai:Hid (aj ins=([],8)):=by
       have:=EO.out;rw[if_pos (.inr (by rw[hlen];omega))] at this
       exact this.symm
      have HF:=hide uG.out.f;clear EO
      go_wp2_with fail
      exact bodyPost_ret (v:=.tuple #[.slice none 0 0,.int .i64 8]) (by simp[results,Tryz.results37,go_sem]) rfl ⟨aN,by rw[Ai.out],HF.out,by rw[Ai.out];exact gN _ _ _⟩
     have hpl':p<ins.length:=by omega
     have hgo:=EO.out;rw[if_neg (by rw[hlen];omega)] at hgo
     simp only[Int.toNat_natCast] at hgo;have Ey:h[p]?=some (h[p]'(by omega)):=List.getElem?_eq_getElem _;have hgd:h.getD p 0=h[p]'(by omega):=by simp[List.getD,Ey]
     rw[hgd] at hgo;generalize h[p]'(by omega)=x at Ey hgo hgd;have hcell:=uG.out.hr.cellAt p (by omega);rw[KM,List.getElem?_map,Ey] at hcell;simp only[Option.map_some] at hcell;have hfz:=uG.out.hr.frozenAt p;have hbl:=uG.out.hl.2
     by_cases hx0:0<=x
     ·by_cases Oz:x=n
      ·rw[if_neg (by omega),if_pos hx0] at hgo;have nH:Hid (V3 w hb cb ca ins (aj ins) f (.int .i64 (k+1:Nat)) (.slice (some ⟨ga,oa,none⟩) Q.length Y7) (.slice (some ⟨gh,oh,none⟩) Q.length Y8) wd):=⟨k+1,⟨some ⟨ga,oa,none⟩,Q.length,Y7⟩,⟨some ⟨gh,oh,none⟩,Q.length,Y8⟩,Q,h,rfl,rfl,rfl,uG.out,hlen,by omega,hQl,DW,by omega,hgo⟩;subst Oz;clear EO hgo
       go_wp2_with fail
       go_roundw
       case rel=>exact⟨f,nH.out⟩
       case measure=>
        rw[MJ.out];exact om (m:=f) nH.out (by omega)
      ·have Ai:Hid (aj ins=([],10)):=by
        rw[if_pos ⟨hx0,Oz⟩] at hgo;exact hgo.symm
       have hxb:(x !=n)=true:=by simpa using Oz
       have HF:=hide uG.out.f;clear EO hgo
       go_wp2_with fail
       exact bodyPost_ret (v:=.tuple #[.slice none 0 0,.int .i64 10]) (by simp[results,Tryz.results37,go_sem]) rfl ⟨aN,by rw[Ai.out],HF.out,by rw[Ai.out];exact gN _ _ _⟩
     rw[if_neg (by omega),if_neg hx0] at hgo;have hii:ins[p]?=some ins[p]:=List.getElem?_eq_getElem hpl';have hig:ins.getD p ⟨0,0,0⟩=ins[p]:=by simp[List.getD,hii]
     have him:ins[p]∈ins:=List.getElem_mem hpl';rw[hig] at hgo;generalize ins[p]=it at hii hig him hgo;have qQ:=hop it him;have hpos:=Br it (p9 it him);obtain⟨gi,oi,e3,K4,y0,y1,y2⟩:=iB (s:=⟨sa,ins.length,sc⟩) HS.out hii;simp only at e3;subst e3;have Sn:=uG.out.f;rw[<-Sn.cell (p:=⟨gi,_,none⟩) K4 id] at y0 y1 y2;have egi:gi<wd.heap.size:=Nat.lt_of_lt_of_le K4 Sn.size;have nih:¬gi=hb:=by have:=Dq.out;omega
     have nch:¬cb=hb:=by have:=Dq.out;omega
     have hcd:=uG.out.c;have hcdl:=uG.out.cl;obtain⟨op,ia,ib⟩:=it;simp only at qQ y0 y1 y2 hgo;obtain⟨sp,hsp⟩:∃sp,aC ⟨op,ia,ib⟩=sp:=⟨_,rfl⟩
     rw[hsp] at hpos hgo;obtain⟨pp,pu⟩:=sp;simp only at hpos hgo;obtain⟨JG,hfs⟩:=uG.out.put p n;have HST:=hide JG;have hcd':wd.cell? ⟨cb,2,none⟩=some (.slice (some ⟨gi,oi,none⟩) ins.length sc):=by rw[hcd,hca]
     have hsz5:(wd.setCell ⟨hb,p,none⟩ (.int .i64 n)).heap.size=wd.heap.size:=by simp
     have Qs:=af (cs:=#[.int .i64 op,.int .i64 ia,.int .i64 ib]) (t:=82) (w:=wd.setCell ⟨hb,p,none⟩ (.int .i64 n)) (Fr.refl nothing _) id;rw[hsz5] at Qs;have XK:=Qs.1 0;have XL:=Qs.1 1;have AR:=Qs.2.2;have hfA:Fr nothing (wd.setCell ⟨hb,p,none⟩ (.int .i64 n)) ((wd.setCell ⟨hb,p,none⟩ (.int .i64 n)).alloc (.cells #[.int .i64 op,.int .i64 ia,.int .i64 ib] 82)):=(Fr.refl _ _).alloc _;have HOW:Hid ((∀b,(ai.v ⟨some ⟨ga,oa,none⟩,Q.length,Y7⟩).ownBlock=some b->b<wd.heap.size)/\∀b,(ai.v ⟨some ⟨gh,oh,none⟩,Q.length,Y8⟩).ownBlock=some b->b<wd.heap.size):=⟨fun b hb'=>(uG.out.a.lt hb').2,fun b hb'=>(uG.out.b.lt hb').2⟩
     have hun:=uq h p x n Ey (by omega) hn2.1;have hN0:IntKind.i64.wrap ((p:Int)+1)=(p:Int)+1:=aO _ (by omega) (by omega);have hx0b:¬(0:Int)<=x:=hx0;clear Qs hcd JG hfs hsz5 EO Sn hii hig him hgd Ey
     by_cases hlow:n<pp
     ·have Ai:Hid (aj ins=([],10)):=by
       rw[if_pos (.inl hlow)] at hgo;exact hgo.symm
      clear hgo
      go_wp2_with (go_at_call 62;refine(jr ⟨op,ia,ib⟩ _ qQ.1 qQ.2).mono ?_;rintro e w6 ⟨rfl,aR⟩;rw[hsp];have BQ:=(HST.out.new hfA).new aR;have i0:=(aR.cell (p:=⟨wd.heap.size,0,none⟩) AR id).trans XK;have i1:=(aR.cell (p:=⟨wd.heap.size,1,none⟩) AR id).trans XL;have il:=Nat.lt_of_lt_of_le AR aR.size;have bg:=hide BQ.f;clear BQ aR)
      exact bodyPost_ret (v:=.tuple #[.slice none 0 0,.int .i64 10]) (by simp[results,Tryz.results37,go_sem]) rfl ⟨aN,by rw[Ai.out],bg.out,by rw[Ai.out];exact gN _ _ _⟩
     by_cases hret:op=18/\1<n
     ·have Ai:Hid (aj ins=([],10)):=by
       rw[if_pos (.inr hret)] at hgo;exact hgo.symm
      obtain⟨rfl,hn1⟩:=hret;clear hgo
      go_wp2_with (go_at_call 62;refine(jr ⟨18,ia,ib⟩ _ qQ.1 qQ.2).mono ?_;rintro e w6 ⟨rfl,aR⟩;rw[hsp];have BQ:=(HST.out.new hfA).new aR;have i0:=(aR.cell (p:=⟨wd.heap.size,0,none⟩) AR id).trans XK;have i1:=(aR.cell (p:=⟨wd.heap.size,1,none⟩) AR id).trans XL;have il:=Nat.lt_of_lt_of_le AR aR.size;have bg:=hide BQ.f;clear BQ aR)
      exact bodyPost_ret (v:=.tuple #[.slice none 0 0,.int .i64 10]) (by simp[results,Tryz.results37,go_sem]) rfl ⟨aN,by rw[Ai.out],bg.out,by rw[Ai.out];exact gN _ _ _⟩
     rw[if_neg (by omega)] at hgo;have hN1:IntKind.i64.wrap (n-pp)=n-pp:=aO _ (by omega) (by omega);have XM:IntKind.i64.wrap (n-pp+pu)=n-pp+pu:=aO _ (by omega) (by omega)
     by_cases h16:16<n-pp+pu
     ·have Ai:Hid (aj ins=([],4)):=by
       rw[if_pos h16] at hgo;exact hgo.symm
      clear hgo;have hretb:¬(op=18/\1<n):=hret
      by_cases OC:op=18
      ·have hn1:¬1<n:=fun e=>hret ⟨OC,e⟩;omega
      ·have aci:(op==18)=false:=by simpa using OC
       go_wp2_with (go_at_call 62;refine(jr ⟨op,ia,ib⟩ _ qQ.1 qQ.2).mono ?_;rintro e w6 ⟨rfl,aR⟩;rw[hsp];have BQ:=(HST.out.new hfA).new aR;have i0:=(aR.cell (p:=⟨wd.heap.size,0,none⟩) AR id).trans XK;have i1:=(aR.cell (p:=⟨wd.heap.size,1,none⟩) AR id).trans XL;have il:=Nat.lt_of_lt_of_le AR aR.size;have bg:=hide BQ.f;clear BQ aR)
       exact bodyPost_ret (v:=.tuple #[.slice none 0 0,.int .i64 4]) (by simp[results,Tryz.results37,go_sem]) rfl ⟨aN,by rw[Ai.out],bg.out,by rw[Ai.out];exact gN _ _ _⟩
     rw[if_neg h16] at hgo
     by_cases TE:op=15
     ·subst TE;have hnx:jg ⟨15,ia,ib⟩ (p:Int) (n-pp+pu)=[(ia,n-pp+pu)]:=by simp[jg]
      rw[hnx] at hgo;clear hnx hret;have Sq:=hide hgo;clear hgo
      go_wp2_with (first
       |(go_at_call 62;refine(jr ⟨15,ia,ib⟩ _ qQ.1 qQ.2).mono ?_;rintro e w6 ⟨rfl,aR⟩;rw[hsp];have BQ:=(HST.out.new hfA).new aR;have i0:=(aR.cell (p:=⟨wd.heap.size,0,none⟩) AR id).trans XK;have i1:=(aR.cell (p:=⟨wd.heap.size,1,none⟩) AR id).trans XL;have il:=Nat.lt_of_lt_of_le AR aR.size;obtain⟨La,Lb,u1,v1,V4,V5,st7,Qt⟩:=BQ.push (ia) (n-pp+pu) (by rw[List.length_map];omega) (by rw[List.length_map];omega);have i0b:=(Qt.cell (p:=⟨wd.heap.size,0,none⟩) il ((by rintro(e|e);exact absurd (HOW.out.1 _ e) (Nat.lt_irrefl _);exact absurd (HOW.out.2 _ e) (Nat.lt_irrefl _)))).trans i0;have i1b:=(Qt.cell (p:=⟨wd.heap.size,1,none⟩) il ((by rintro(e|e);exact absurd (HOW.out.1 _ e) (Nat.lt_irrefl _);exact absurd (HOW.out.2 _ e) (Nat.lt_irrefl _)))).trans i1;have ilb:=Nat.lt_of_lt_of_le il Qt.size;have nH:Hid (V3 w hb cb ca ins (aj ins) f (.int .i64 (k+1:Nat)) (.slice La.a La.n La.c) (.slice Lb.a Lb.n Lb.c) v1):=⟨k+1,⟨La.a,La.n,La.c⟩,⟨Lb.a,Lb.n,Lb.c⟩,Q++ [(ia,n-pp+pu)],h.set p n,rfl,rfl,rfl,(by simpa using st7),by rw[List.length_set];exact hlen,by simp only[List.length_append];omega,by simp only[List.length_append,List.length_cons,List.length_nil];omega,fun z hz=>(List.mem_append.1 hz).elim (DW z) (fun hz=>by simp at hz;subst hz;exact⟨by omega,by omega⟩),by simp only[List.length_append,List.length_cons,List.length_nil];omega,by rw[List.drop_append_of_le_length (by omega)];exact Sq.out⟩;clear BQ aR)
       |(at_builtin;go_must (first|(refine aD rfl _ _ 92 rfl _ _ rfl rfl V4 ?_;clear V4)|(refine aD rfl _ _ 92 rfl _ _ rfl rfl V5 ?_;clear V5))))
      go_roundw
      case rel=>exact⟨f,nH.out⟩
      case measure=>
       rw[MJ.out];exact om (m:=f) nH.out (by omega)
     by_cases OC:op=18
     ·subst OC;have hn1:¬1<n:=fun e=>hret ⟨rfl,e⟩;have hnx:jg ⟨18,ia,ib⟩ (p:Int) (n-pp+pu)=[]:=by simp[jg]
      rw[hnx] at hgo;clear hnx hret;have Sq:=hide hgo;clear hgo
      go_wp2_with (go_at_call 62;refine(jr ⟨18,ia,ib⟩ _ qQ.1 qQ.2).mono ?_;rintro e w6 ⟨rfl,aR⟩;rw[hsp];have BQ:=(HST.out.new hfA).new aR;have i0:=(aR.cell (p:=⟨wd.heap.size,0,none⟩) AR id).trans XK;have i1:=(aR.cell (p:=⟨wd.heap.size,1,none⟩) AR id).trans XL;have il:=Nat.lt_of_lt_of_le AR aR.size;have nH:Hid (V3 w hb cb ca ins (aj ins) f (.int .i64 (k+1:Nat)) (.slice (some ⟨ga,oa,none⟩) Q.length Y7) (.slice (some ⟨gh,oh,none⟩) Q.length Y8) w6):=⟨k+1,⟨some ⟨ga,oa,none⟩,Q.length,Y7⟩,⟨some ⟨gh,oh,none⟩,Q.length,Y8⟩,Q++ [],h.set p n,rfl,rfl,rfl,(by simpa using BQ),by rw[List.length_set];exact hlen,by simp only[List.length_append];omega,by simp only[List.length_append,List.length_nil];omega,fun z hz=>(List.mem_append.1 hz).elim (DW z) (fun hz=>by cases hz),by simp only[List.length_append,List.length_nil];omega,by rw[List.drop_append_of_le_length (by omega)];exact Sq.out⟩;clear BQ aR)
      go_roundw
      case rel=>exact⟨f,nH.out⟩
      case measure=>
       rw[MJ.out];exact om (m:=f) nH.out (by omega)
     by_cases o16:op=16
     ·subst o16;have hnx:jg ⟨16,ia,ib⟩ (p:Int) (n-pp+pu)=[((p:Int)+1,n-pp+pu),(ia,n-pp+pu)]:=by simp[jg]
      rw[hnx] at hgo;clear hnx hret;have Sq:=hide hgo;clear hgo
      go_wp2_with (first
       |(go_at_call 62;refine(jr ⟨16,ia,ib⟩ _ qQ.1 qQ.2).mono ?_;rintro e w6 ⟨rfl,aR⟩;rw[hsp];have BQ:=(HST.out.new hfA).new aR;have i0:=(aR.cell (p:=⟨wd.heap.size,0,none⟩) AR id).trans XK;have i1:=(aR.cell (p:=⟨wd.heap.size,1,none⟩) AR id).trans XL;have il:=Nat.lt_of_lt_of_le AR aR.size;obtain⟨La,Lb,u1,v1,V4,V5,st7,Qt⟩:=BQ.push ((p:Int)+1) (n-pp+pu) (by rw[List.length_map];omega) (by rw[List.length_map];omega);have i0b:=(Qt.cell (p:=⟨wd.heap.size,0,none⟩) il ((by rintro(e|e);exact absurd (HOW.out.1 _ e) (Nat.lt_irrefl _);exact absurd (HOW.out.2 _ e) (Nat.lt_irrefl _)))).trans i0;have i1b:=(Qt.cell (p:=⟨wd.heap.size,1,none⟩) il ((by rintro(e|e);exact absurd (HOW.out.1 _ e) (Nat.lt_irrefl _);exact absurd (HOW.out.2 _ e) (Nat.lt_irrefl _)))).trans i1;have ilb:=Nat.lt_of_lt_of_le il Qt.size;obtain⟨Y9,vO,u2,v2,ra2,rb2,st8,fp2⟩:=st7.push (ia) (n-pp+pu) (by simp only[List.length_append,List.length_map,List.length_singleton];omega) (by simp only[List.length_append,List.length_map,List.length_singleton];omega);have ilc:=Nat.lt_of_lt_of_le ilb fp2.size;have nH:Hid (V3 w hb cb ca ins (aj ins) f (.int .i64 (k+1:Nat)) (.slice Y9.a Y9.n Y9.c) (.slice vO.a vO.n vO.c) v2):=⟨k+1,⟨Y9.a,Y9.n,Y9.c⟩,⟨vO.a,vO.n,vO.c⟩,Q++ [((p:Int)+1,n-pp+pu),(ia,n-pp+pu)],h.set p n,rfl,rfl,rfl,(by simpa using st8),by rw[List.length_set];exact hlen,by simp only[List.length_append];omega,by simp only[List.length_append,List.length_cons,List.length_nil];omega,fun z hz=>(List.mem_append.1 hz).elim (DW z) (fun hz=>by simp at hz;rcases hz with rfl|rfl<;>exact⟨by omega,by omega⟩),by simp only[List.length_append,List.length_cons,List.length_nil];omega,by rw[List.drop_append_of_le_length (by omega)];exact Sq.out⟩;clear BQ aR)
       |(at_builtin;go_must (first|(refine aD rfl _ _ 92 rfl _ _ rfl rfl V4 ?_;clear V4)|(refine aD rfl _ _ 92 rfl _ _ rfl rfl V5 ?_;clear V5)|(refine aD rfl _ _ 92 rfl _ _ rfl rfl ra2 ?_;clear ra2)|(refine aD rfl _ _ 92 rfl _ _ rfl rfl rb2 ?_;clear rb2))))
      go_roundw
      case rel=>exact⟨f,nH.out⟩
      case measure=>
       rw[MJ.out];exact om (m:=f) nH.out (by omega)
     have o15b:(op==15)=false:=by simpa using TE
     have o16b:(op==16)=false:=by simpa using o16
     have aci:(op==18)=false:=by simpa using OC
     have o15c:(op !=15)=true:=by simpa using TE
     have o18c:(op !=18)=true:=by simpa using OC
     have hnx:jg ⟨op,ia,ib⟩ (p:Int) (n-pp+pu)=[((p:Int)+1,n-pp+pu)]:=by simp[jg,TE,o16,OC]
     rw[hnx] at hgo;clear hnx hret;have Sq:=hide hgo;clear hgo
     go_wp2_with (first
      |(go_at_call 62;refine(jr ⟨op,ia,ib⟩ _ qQ.1 qQ.2).mono ?_;rintro e w6 ⟨rfl,aR⟩;rw[hsp];have BQ:=(HST.out.new hfA).new aR;have i0:=(aR.cell (p:=⟨wd.heap.size,0,none⟩) AR id).trans XK;have i1:=(aR.cell (p:=⟨wd.heap.size,1,none⟩) AR id).trans XL;have il:=Nat.lt_of_lt_of_le AR aR.size;obtain⟨La,Lb,u1,v1,V4,V5,st7,Qt⟩:=BQ.push ((p:Int)+1) (n-pp+pu) (by rw[List.length_map];omega) (by rw[List.length_map];omega);have i0b:=(Qt.cell (p:=⟨wd.heap.size,0,none⟩) il ((by rintro(e|e);exact absurd (HOW.out.1 _ e) (Nat.lt_irrefl _);exact absurd (HOW.out.2 _ e) (Nat.lt_irrefl _)))).trans i0;have i1b:=(Qt.cell (p:=⟨wd.heap.size,1,none⟩) il ((by rintro(e|e);exact absurd (HOW.out.1 _ e) (Nat.lt_irrefl _);exact absurd (HOW.out.2 _ e) (Nat.lt_irrefl _)))).trans i1;have ilb:=Nat.lt_of_lt_of_le il Qt.size;have nH:Hid (V3 w hb cb ca ins (aj ins) f (.int .i64 (k+1:Nat)) (.slice La.a La.n La.c) (.slice Lb.a Lb.n Lb.c) v1):=⟨k+1,⟨La.a,La.n,La.c⟩,⟨Lb.a,Lb.n,Lb.c⟩,Q++ [((p:Int)+1,n-pp+pu)],h.set p n,rfl,rfl,rfl,(by simpa using st7),by rw[List.length_set];exact hlen,by simp only[List.length_append];omega,by simp only[List.length_append,List.length_cons,List.length_nil];omega,fun z hz=>(List.mem_append.1 hz).elim (DW z) (fun hz=>by simp at hz;subst hz;exact⟨by omega,by omega⟩),by simp only[List.length_append,List.length_cons,List.length_nil];omega,by rw[List.drop_append_of_le_length (by omega)];exact Sq.out⟩;clear BQ aR)
      |(at_builtin;go_must (first|(refine aD rfl _ _ 92 rfl _ _ rfl rfl V4 ?_;clear V4)|(refine aD rfl _ _ 92 rfl _ _ rfl rfl V5 ?_;clear V5))))
     go_roundw
     case rel=>exact⟨f,nH.out⟩
     case measure=>
      rw[MJ.out];exact om (m:=f) nH.out (by omega)
    ·have hdr:Q.drop k=[]:=List.drop_eq_nil_of_le (by omega);rw[hdr] at hgo;obtain⟨f,rfl⟩:∃f,m0=f+1:=⟨m0-1,by omega⟩
     rw[vM] at hgo;have Ai:=hide hgo;have HF:=hide st.f;have HR:Hid (Sl encZ 1 wr (ai.v ⟨some ⟨hb,0,none⟩,ins.length,ins.length⟩) h):=by
      have:=eX Ej st.hr;rw[hlen] at this;exact this
     clear hgo st
     go_wp2_with fail
     exact bodyPost_ret (v:=.tuple #[.slice (some ⟨hb,0,none⟩) ins.length ins.length,.int .i64 0]) (by simp[results,Tryz.results37,go_sem]) rfl ⟨⟨some ⟨hb,0,none⟩,ins.length,ins.length⟩,by rw[<-Ai.out],HF.out,by rw[<-Ai.out];exact HR.out⟩
end
section
theorem BR (v:Bs) (w:World) (hv:v.length<=9223372036854775807):
 Calls Tryz.prog 61 #[.string (bs v)] w fun e w'=>e=.returned (.bool (isWord v))/\w'=w:=by
 have hsz:=dz v;have HN:Hid (isWord v=(v.all lM&&decide (v.length<13))):=rfl;generalize isWord v=r at HN⊢
 go_enter Tryz.func61,Tryz.ntmps61
 go_wp2
 go_loop [6,3] (fun i _=>∃k:Nat,k<=v.length/\i=.int .i64 k/\Hid ((v.take k).all lM=true)) (fun i _=>v.length-(intOf i).toNat)
 case atStart=>exact⟨0,Nat.zero_le _,rfl,rfl⟩
 case round=>
  obtain⟨k,hk,rfl,hall⟩:=hrel
  by_cases hlt:k<v.length
  ·have hz:(k:Int)<((bs v).size:Int):=by rw[hsz];omega
   have hz':k<(bs v).size:=by rw[hsz];omega
   generalize hc:(bs v)[k]'hz'=c;have Aj:Hid (v[k]=c):=hc
   by_cases h1:c.toNat<32
   ·have hr:r=false:=by rw[HN.out,kT hlt Aj.out (by simp[lM];omega)];simp
    subst hr;have h2:(c.toNat:Int)<32:=by omega
    go_wp2
    all_goals go_ret
    all_goals exact⟨rfl,rfl⟩
   ·have h2:¬(c.toNat:Int)<32:=by omega
    by_cases h3:126<c.toNat
    ·have hr:r=false:=by rw[HN.out,kT hlt Aj.out (by simp[lM];omega)];simp
     subst hr;have h4:(126:Int)<(c.toNat:Int):=by omega
     go_wp2
     all_goals go_ret
     all_goals exact⟨rfl,rfl⟩
    ·have h4:¬(126:Int)<(c.toNat:Int):=by omega
     by_cases h5:c.toNat=39
     ·have hr:r=false:=by rw[HN.out,kT hlt Aj.out (by simp[lM,h5])];simp
      subst hr;have h6:((c.toNat:Int)==39)=true:=by simp;omega
      go_wp2
      all_goals go_ret
      all_goals exact⟨rfl,rfl⟩
     ·have h6:((c.toNat:Int)==39)=false:=by simp;omega
      have HL:=hide (nU hall.out hlt Aj.out (by simp[lM,h5];omega))
      go_wp2
      go_round
      case rel=>exact⟨k+1,by omega,by go_num,HL⟩
      case measure=>simp[intOf];omega
  ·obtain rfl:k=v.length:=by omega
   have hr:r=decide (v.length<13):=by
    have:=hall.out;rw[List.take_length] at this;rw[HN.out,this];simp
   subst hr;clear hall
   by_cases h9:v.length<13
   ·have g9:(v.length:Int)<13:=by omega
    go_wp2
    all_goals go_ret
    all_goals exact⟨by simp[*],rfl⟩
   ·have g9:¬(v.length:Int)<13:=by omega
    go_wp2
    all_goals go_ret
    all_goals exact⟨by simp[*],rfl⟩
end
end Go.Proofs.YtbcadjgpcfmkfaaGreatDoor
