/- MCall; MClone; GRun. -/
import Derived.Deep.DeepCutAuto
import Derived.Lib.SliceRun
import Derived.Test.YtbcadjgpcfmkfaaGreatDoorPartU15
import Derived.Test.YtbcadjgpcfmkfaaGreatDoorPartU1
import Derived.Test.YtbcadjgpcfmkfaaGreatDoorPartU11
set_option maxHeartbeats 0
set_option maxRecDepth 100000
set_option linter.unusedSimpArgs false
namespace Go.Proofs.YtbcadjgpcfmkfaaGreatDoor
open Go Go.RowKit
section
theorem TM:(Tryz.prog.info? 51).map (fun i=>(i.zero,i.size,i.bytes))=some (some (.agg #[.int .i64 0,.int .i64 0,.slice none 0 0,.slice none 0 0]),4,64):=by kernel_rfl
theorem EF (x:aQ):∀u∈lU x,u.oneCell'=true:=by simp[lU,Value.oneCell']
theorem Di {α:Type} {enc:α->List Value} {sz:Nat} {w:World} {q:ai} {l:List α} (h:Sl enc sz w q.v l) (k:Nat) (hk:k<=l.length) (hc:l.length<=q.c):Sl enc sz w (.slice (if q.c=k then q.a else q.a.map (·.add (k*sz))) (l.length-k) (q.c-k)) (l.drop k):=by
 obtain⟨ao,cap,he,hm,hcell⟩:=h;simp only[ai.v,Value.slice.injEq] at he;obtain⟨e1,e2,e3⟩:=he;refine⟨_,_,by rw[List.length_drop],by rw[List.length_drop];omega,fun i x hx=>?_⟩
 rw[List.getElem?_drop] at hx;have hlt:=(List.getElem?_eq_some_iff.1 hx).1;obtain⟨b,off,rfl,hb,hc2⟩:=hcell (k+i) x hx;rw[if_neg (by omega),e1];refine⟨b,off+k*sz,by simp[add_eq],hb,fun j u hu=>?_⟩
 rw[<-hc2 j u hu]
 congr 2
 rw[Nat.add_mul];omega
theorem Own.low {α:Type} {enc:α->List Value} {T sz b b':Nat} {q:ai} {l:List α} {w:World} (h:Own enc T sz b q l w) (hb:b'<=b):Own enc T sz b' q l w:=⟨h.n,h.row.1,by
 rcases h.row.2 with e|⟨g,cap,cur,e,e2,e3⟩
 ·exact .inl e
 ·exact .inr ⟨g,cap,cur,e,Nat.le_trans hb e2,e3⟩⟩
theorem abV {w:World} {b:Nat} {f:Nat->Value} (x0 x1 x2 x3:Value) (h:∀i,i<4->w.cell? ⟨b,i,none⟩=some (f i)):
 ∃w5,(((w.setCell ⟨b,0,none⟩ x0).setCell ⟨b,1,none⟩ x1).setCell ⟨b,2,none⟩ x2).setCell ⟨b,3,none⟩ x3=w5/\
  (w5.cell? ⟨b,0,none⟩=some x0/\w5.cell? ⟨b,1,none⟩=some x1/\w5.cell? ⟨b,2,none⟩=some x2/\w5.cell? ⟨b,3,none⟩=some x3)/\Fr (fun k=>k=b) w w5:=by
 have h0:=dD (v:=x0) h (j:=0) (by decide);have h1:=dD (v:=x1) h0 (j:=1) (by decide);have h2:=dD (v:=x2) h1 (j:=2) (by decide);have h3:=dD (v:=x3) h2 (j:=3) (by decide);refine⟨_,rfl,⟨h3 0 (by decide),h3 1 (by decide),h3 2 (by decide),h3 3 (by decide)⟩,?_⟩
 exact((((Fr.refl (fun k=>k=b) w).setCell (p:=⟨b,0,none⟩) (.inl rfl) _).setCell (p:=⟨b,1,none⟩) (.inl rfl) _).setCell (p:=⟨b,2,none⟩) (.inl rfl) _).setCell (p:=⟨b,3,none⟩) (.inl rfl) _
section
variable {base mb : Nat} {x : Fx} {qf qh : ai} {rp : List aQ} {r : aQ} {m : Mc} {w : World}
theorem Mq (h:Mt base mb x qf qh rp r m w) (hl:rp.length<=1000) {st xs:List Val} {fn n:Nat} {c:Cz} (hst:m.f.stack=st++xs) (hs:st.length<=1000) (hx:xs.length<=n) (hn:n<=8) (hc:m.pg.cs[fn]?=some c) (hnv:c.nv=n) (hP:∀w',Fr (fun k=>Ob qf qh rp r k\/k=mb) w w'->iq w' x.sc x.sw m.pg):
 Calls Tryz.prog 48 #[.pointer (some ⟨mb,0,none⟩),.int .i64 fn,.int .i64 xs.length] w (MR base mb x (Ob qf qh rp r) w (if 12<=rp.length+1 then m else{stk m st with pre:=m.pre++ [{m.f with stack:=st}],f:=⟨fn,0,xs++List.replicate (n-xs.length) v0,[]⟩}) (if 12<=rp.length+1 then bQ 9 else dB)):=by
 have FA:Fr nothing w (w.alloc (.cells #[.int .i64 0,.string ⟨#[]⟩,.int .i64 0] 39)):=(Fr.refl _ _).alloc _;have mA:=af (Fr.refl nothing (w.alloc (.cells #[.int .i64 0,.string ⟨#[]⟩,.int .i64 0] 39))) id;have dF:∀k,Ob qf qh rp r k->k<w.heap.size:=fun k hk=>(h.ob hk).2
 have hnb:¬(Ob qf qh rp r w.heap.size\/w.heap.size=mb):=fun e=>by
  rcases e with e|e
  ·have:=dF _ e;omega
  ·have:=h.mw;omega
 obtain⟨wA,iU⟩:∃y,y=w.alloc (.cells #[.int .i64 0,.string ⟨#[]⟩,.int .i64 0] 39):=⟨_,rfl⟩
 rw[<-iU] at FA mA;have bV:Hid (∀w',Fr (fun k=>Ob qf qh rp r k\/k=mb) wA w'->w'.cell? ⟨w.heap.size,0,none⟩=some (.int .i64 0)/\w'.cell? ⟨w.heap.size,1,none⟩=some (.string ⟨#[]⟩)/\w'.cell? ⟨w.heap.size,2,none⟩=some (.int .i64 0)/\(w'.frozen? ⟨w.heap.size,0,none⟩=false/\w'.frozen? ⟨w.heap.size,1,none⟩=false/\w'.frozen? ⟨w.heap.size,2,none⟩=false)/\w.heap.size<w'.heap.size):=fun w' hf=>by
  have hc:∀j,w'.cell? ⟨w.heap.size,j,none⟩=_:=fun j=>(hf.cell (p:=⟨w.heap.size,j,none⟩) mA.2.2 hnb).trans (mA.1 j)
  have hz:∀j,w'.frozen? ⟨w.heap.size,j,none⟩=_:=fun j=>(hf.frozen (p:=⟨w.heap.size,j,none⟩) mA.2.2 hnb).trans (mA.2.1 j)
  exact⟨hc 0,hc 1,hc 2,⟨hz 0,hz 1,hz 2⟩,Nat.lt_of_lt_of_le mA.2.2 hf.size⟩
 have H0:=hide (h.new FA);have dL:=hide FA;have zA:wA.heap.size=w.heap.size+1:=by rw[iU];simp
 have pQ:=iU.symm;have HH:=hide h;have c4:=H0.out.c4;have nL:qf.n=rp.length+1:=h.frs.2;rw[nL] at c4;have cm:=H0.out.mw;have HP:=hide hP;have KO:=hide (lY H0.out hl);clear h FA mA iU hP
 by_cases hk:12<=rp.length+1
 ·rw[if_pos hk,if_pos hk];have hkb:(12:Int)<=((rp.length+1:Nat):Int):=by omega
  go_enter Tryz.func48,Tryz.ntmps48
  go_wp2_with (first
   |(go_at_call 17;refine(jK 9 _).mono ?_;rintro e w6 ⟨rfl,aR⟩;have bg:Hid (Fr (fun k=>Ob qf qh rp r k\/k=mb) wA w6):=aR.mono (fun _ _ e=>e.elim);have gI:=hide (H0.out.new aR);obtain⟨n0,n1,n2,⟨z0,z1,z2⟩,nl⟩:=bV.out w6 bg.out;clear aR))
  refine bodyPost_ret (v:=je (bQ 9)) (by simp[results,Tryz.results48,go_sem,n0,n1,n2]) rfl ?_
  exact MR.fin HH.out.bl HH.out.ml dL.out bg.out gI.out (fun k hk=> .inl hk) dF _ _ _
 rw[if_neg hk,if_neg hk];have hkb:¬(12:Int)<=((rp.length+1:Nat):Int):=by omega
 have hsn:r.s.n=st.length+xs.length:=by have:=HH.out.et.s.n;rw[hst] at this;simpa using this
 have hcap:st.length+xs.length<=r.s.c:=by have:=HH.out.et.s.le;omega
 have hwr:IntKind.i64.wrap (((st.length+xs.length:Nat):Int)-(xs.length:Int))=(st.length:Int):=by rw[aO _ (by omega) (by omega)];omega
 obtain⟨Hy,rat,rv,⟨sa,sn,sc⟩⟩:=r;simp only at hsn hcap;subst hsn
 go_enter Tryz.func48,Tryz.ntmps48
 go_wp2_with (first
  |(go_at_call 38;refine KO.out.mono ?_;rintro e w2 ⟨⟨g,hg,rfl⟩,hf2⟩;have bq:=hide hf2;have HG:=hide hg;have H2:=H0.out.new hf2;have mF:=hide H2;obtain⟨g',hg',-,gl,gc,gz,-⟩:=H2.fr.put dA (i:=rp.length) (j:=3) (x:=⟨Hy,rat,rv,⟨sa,st.length+xs.length,sc⟩⟩) (x':=⟨Hy,rat,rv,⟨sa,st.length+xs.length,sc⟩⟩) (u:=.slice sa (st.length+xs.length) sc) (by simp) (by decide) rfl;obtain rfl:g=g':=(by have:=hg.symm.trans hg';simpa using this);have hgc:w2.cell? ⟨g,rp.length*4+3,none⟩=some (.slice sa (st.length+xs.length) sc):=gc;have c2:=H2.c2;have cm2:=H2.mw;clear hf2 hg H2 gc hg'))
 have iL:Hid (∀w',Fr nothing w2 w'->w'.cell? ⟨mb,2,none⟩=some (.slice x.sc.a x.sc.n x.sc.c)/\w'.cell? ⟨g,rp.length*4+3,none⟩=some (.slice sa (st.length+xs.length) sc)):=fun w' hf=>⟨(hf.cell (p:=⟨mb,2,none⟩) cm2 id).trans c2,(hf.cell (p:=⟨g,_,none⟩) gl id).trans hgc⟩
 obtain⟨Xc,Xd⟩:∃y,y=(if sc=st.length then sa else sa.map (·.add (st.length*3))):=⟨_,rfl⟩
 have hdl:st.length+xs.length-st.length=xs.length:=by omega
 have HB:Hid (∀w',Fr nothing w2 w'->Calls Tryz.prog 29 #[.slice x.sc.a x.sc.n x.sc.c,.int .i64 fn,.slice Xc xs.length (sc-st.length)] w' fun e w''=>∃qv:ai,e=.returned (.agg #[.int .i64 fn,.int .i64 0,.slice qv.a qv.n qv.c,.slice none 0 0])/\Fr nothing w' w''/\Own aP 53 3 w'.heap.size qv (xs++List.replicate (n-xs.length) v0) w''):=fun w' hf=>by
  have hw:Fr nothing w w':=(dL.out.trans bq.out).trans hf;have hsl:=Di ((mF.out.new hf).et.s.sl aK) st.length (by rw[hst];simp) (by rw[hst];simpa using hcap)
  rw[hst,List.drop_left,List.length_append,hdl,<-Xd] at hsl;exact BG x.sc x.sw m.pg fn ⟨Xc,xs.length,sc-st.length⟩ xs w' (HP.out w' (hw.mono (fun _ _ e=>e.elim))) hc n hn hnv hsl hx
 have HQ:=hide Xd;clear Xd;have hle:(st.length:Int)<=(st.length:Int)+(xs.length:Int):=by omega
 go_cut [9] (fun v9 wx=>∃(nb:Nat) (qv:ai),v9=.pointer (some ⟨nb,0,none⟩)/\Hid (Fr nothing w2 wx/\(w2.heap.size<=nb/\nb<wx.heap.size)/\(wx.cell? ⟨nb,0,none⟩=some (.int .i64 fn)/\wx.cell? ⟨nb,1,none⟩=some (.int .i64 0)/\wx.cell? ⟨nb,2,none⟩=some (.slice qv.a qv.n qv.c)/\wx.cell? ⟨nb,3,none⟩=some (.slice none 0 0))/\Own aP 53 3 w2.heap.size qv (xs++List.replicate (n-xs.length) v0) wx))
 case first=>
  refine hd iL (fun hHeld=>?_)
  refine tk 0 ?_
  refine tk 1 ?_
  refine tk 2 ?_
  refine tk 3 ?_
  refine tk 4 ?_
  refine tk 5 ?_
  refine tk 6 ?_
  refine tk 7 ?_
  refine tk 8 ?_
  refine tk 9 ?_
  refine tk 10 ?_
  refine tk 11 ?_
  refine tk 12 ?_ (hy:=by intro w hSw;(try dsimp only at hSw);go_simp;rw[<-HQ.out])
  refine rH [13,14] ?_
  refine cH (fun K hK=>?_) (cH (fun K hK=>?_) AllReadyH.nil)
  ·refine aF rfl 29 Tryz.f29 #[.tmp 32,.tmp 33,.tmp 39] #[22,3,49] rfl Tryz.func29 (by kernel_rfl) (by kernel_rfl) #[.slice x.sc.a x.sc.n x.sc.c,.int .i64 fn,.slice Xc xs.length (sc-st.length)] (by simp[Act.eval]) _ (HB.out _ (Fr.refl nothing w2).drew) ?_
   rintro e w3 ⟨qv,rfl,hf3,hov⟩;refine⟨_,rfl,?_⟩
   have nN:Fr nothing w2 w3:=(Fr.refl nothing w2).drew.trans hf3;refine hK _ _ (iL.out _ nN) (fun _=>?_)
   clear hK K hHeld
   try simp only[Act.put,sA,sZ,sS]
   refine iP 14 (fun K hK=>?_)
   go_simp;refine hK _ _ (iL.out _ (nN.alloc _)) (fun _=>?_)
   clear hK K
   try simp only[Act.put,sA,sZ,sS]
   refine iP 15 (fun K hK=>?_)
   go_simp;have mB:=af (w:=w3) (cs:=#[.int .i64 fn,.int .i64 0,.slice qv.a qv.n qv.c,.slice none 0 0]) (t:=51) (w1:=w3.alloc (.cells #[.int .i64 fn,.int .i64 0,.slice qv.a qv.n qv.c,.slice none 0 0] 51)) (S:=nothing) (Fr.refl nothing _) id;refine hK _ _ (iL.out _ (nN.alloc _)) (fun _=>?_)
   clear hK K
   try simp only[Act.put,sA,sZ,sS]
   refine wpAnyH_done (by kernel_rfl) ?_ _
   have HR:=hide (And.intro nN (And.intro hov mB));clear nN hov mB hf3
   go_wp2_with fail
   go_meet
   case rel=>
    obtain⟨k1,k2,k3⟩:=HR.out;exact⟨w3.heap.size,qv,rfl,k1.alloc _,⟨k1.size,k3.2.2⟩,⟨k3.1 0,k3.1 1,k3.1 2,k3.1 3⟩,(k2.low (Nat.le_refl _)).new ((Fr.refl nothing _).alloc _)⟩
  ·go_simp;refine hK _ _ (iL.out _ (((Fr.refl nothing w2).alloc _).drew)) (fun _=>?_)
   clear hK K hHeld
   try simp only[Act.put,sA,sZ,sS]
   refine iP 13 (fun K hK=>?_)
   refine aF rfl 29 Tryz.f29 #[.tmp 32,.tmp 33,.tmp 39] #[22,3,49] rfl Tryz.func29 (by kernel_rfl) (by kernel_rfl) #[.slice x.sc.a x.sc.n x.sc.c,.int .i64 fn,.slice Xc xs.length (sc-st.length)] (by simp[Act.eval]) _ (HB.out _ ((Fr.refl nothing w2).alloc _).drew) ?_
   rintro e w3 ⟨qv,rfl,hf3,hov⟩;refine⟨_,rfl,?_⟩
   have nN:Fr nothing w2 w3:=((Fr.refl nothing w2).alloc _).drew.trans hf3;refine hK _ _ (iL.out _ nN) (fun _=>?_)
   clear hK K
   try simp only[Act.put,sA,sZ,sS]
   have mB:=af (w:=w2) (cs:=#[.int .i64 0,.int .i64 0,.slice none 0 0,.slice none 0 0]) (t:=51) (w1:=w3) (S:=nothing) ((Fr.refl nothing _).drew.trans hf3) id;have b0:=mB.1 0;have b1:=mB.1 1;have b2:=mB.1 2;have b3:=mB.1 3;have bz0:=mB.2.1 0;have bz1:=mB.2.1 1;have bz2:=mB.2.1 2;have bz3:=mB.2.1 3;refine iP 15 (fun K hK=>?_)
   go_simp;obtain⟨w5,xU,TJ,jd⟩:=abV (w:=w3) (b:=w2.heap.size) (f:=fun i=>(#[.int .i64 0,.int .i64 0,.slice none 0 0,.slice none 0 0]:Array Value).getD i (.int .i64 0)) (.int .i64 fn) (.int .i64 0) (.slice qv.a qv.n qv.c) (.slice none 0 0) (fun i hi=>by
    rw[mB.1 i]
    match i,hi with
    |0,_|1,_|2,_|3,_=>rfl)
   rw[xU];have Xe:Fr nothing w2 w5:=nN.then jd (fun k hk e=>by omega);have Z4:Own aP 53 3 w2.heap.size qv (xs++List.replicate (n-xs.length) v0) w5:=(hov.low (by simp[World.drew])).fr jd (fun k hk e=>by
    have h1:=(hov.lt hk).1;simp[World.drew] at h1
    have e2:k=w2.heap.size:=e;omega)
   have hl5:=Nat.lt_of_lt_of_le mB.2.2 jd.size;refine hK _ _ (iL.out _ Xe) (fun _=>?_)
   clear hK K
   try simp only[Act.put,sA,sZ,sS]
   refine wpAnyH_done (by kernel_rfl) ?_ _
   have HR:=hide (And.intro Xe (And.intro Z4 (And.intro hl5 TJ)));clear Xe Z4 hl5 TJ nN hov mB hf3 b0 b1 b2 b3 bz0 bz1 bz2 bz3 jd xU
   go_wp2_with fail
   go_meet
   case rel=>
    obtain⟨k1,k2,k3,k4⟩:=HR.out;exact⟨w2.heap.size,qv,rfl,k1,⟨Nat.le_refl _,k3⟩,k4,k2⟩
 case rest=>
  clear iL HB hle hdl HQ Xc c2 hgc gl gz;obtain⟨nb,qv,rfl,H⟩:=hcut;obtain⟨hf,⟨hnb1,OT⟩,⟨d0,d1,d2,d3⟩,hov⟩:=H.out;have H3:=mF.out.new hf;have ho:fF aP 53 3 base ⟨sa,st.length,sc⟩ st wc:=by
   have:=H3.et.s.cut aK st.length (by rw[hst];simp);rw[hst,List.take_append_of_le_length (Nat.le_refl _),List.take_length] at this;exact this
  obtain⟨g2,hg2,hgl,hgc,hgz,hM,iT⟩:=H3.Df (w1:=wc) (Fr.refl _ _) ho (fun b hb=> .inl ((qJ sa (st.length+xs.length) st.length sc).trans hb));obtain rfl:g=g2:=by have:=HG.out.symm.trans hg2;simpa using this
  have hgw:g<w2.heap.size:=mF.out.fr.lt (H3.fr.obs (by simp) hg2)|>.2;have iV:=hide hM;have jd:Fr (fun k=>k=g) wc (wc.setCell ⟨g,rp.length*4+3,none⟩ (.slice sa st.length sc)):=(Fr.refl (fun k=>k=g) wc).setCell (p:=⟨g,rp.length*4+3,none⟩) (.inl rfl) _;have Z5:Fr (fun k=>Ob qf qh rp ⟨Hy,rat,rv,⟨sa,st.length+xs.length,sc⟩⟩ k\/k=mb) wA (wc.setCell ⟨g,rp.length*4+3,none⟩ (.slice sa st.length sc)):=((bq.out.trans hf).mono (fun _ _ e=>e.elim)).trans (iT.mono (fun k _ e=> .inl e));have aX:=hide Z5;have hd:∀j,(wc.setCell ⟨g,rp.length*4+3,none⟩ (.slice sa st.length sc)).cell? ⟨nb,j,none⟩=wc.cell? ⟨nb,j,none⟩:=fun j=>jd.cell (p:=⟨nb,j,none⟩) OT (fun e=>by have e':nb=g:=e;omega)
  have HD:=hide (And.intro ((hd 0).trans d0) (And.intro ((hd 1).trans d1) (And.intro ((hd 2).trans d2) ((hd 3).trans d3))));have HOV:Hid (Own aP 53 3 w2.heap.size qv (xs++List.replicate (n-xs.length) v0) (wc.setCell ⟨g,rp.length*4+3,none⟩ (.slice sa st.length sc))):=hov.fr jd (fun k hk e=>by
   have h1:=(hov.lt hk).1;have e2:k=g:=e;omega)
  have oJ:=Nat.lt_of_lt_of_le OT jd.size;have hsz2:w.heap.size<w2.heap.size:=by have:=bq.out.size;omega
  have abW:(wc.setCell ⟨g,rp.length*4+3,none⟩ (.slice sa st.length sc)).heap.size=wc.heap.size:=by simp
  have hsc:=hf.size;clear H hf OT d0 d1 d2 d3 hov H3 ho hM iT jd Z5 hd mF bq
  go_wp2_with fail
  generalize wc.setCell ⟨g,rp.length*4+3,none⟩ (.slice sa st.length sc)=w5 at*;obtain⟨d0,d1,d2,d3⟩:=HD.out;have Y1:=iV.out.c4;rw[nL] at Y1;have FB:Fr nothing w5 (w5.alloc (.cells #[.int .i64 fn,.int .i64 0,.slice qv.a qv.n qv.c,.slice none 0 0] 51)).drew:=((Fr.refl nothing w5).alloc _).drew;have zB:(w5.alloc (.cells #[.int .i64 fn,.int .i64 0,.slice qv.a qv.n qv.c,.slice none 0 0] 51)).drew.heap.size=w5.heap.size+1:=by simp[World.drew]
  have Z6:Sl lU 4 (w5.alloc (.cells #[.int .i64 fn,.int .i64 0,.slice qv.a qv.n qv.c,.slice none 0 0] 51)).drew (ai.v ⟨some ⟨w5.heap.size,0,none⟩,1,1⟩) [⟨fn,0,qv,aN⟩]:=(xK (enc:=lU) (sz:=4) (T:=51) w5 #[.int .i64 fn,.int .i64 0,.slice qv.a qv.n qv.c,.slice none 0 0] ⟨fn,0,qv,aN⟩ rfl).fr (Fr.refl nothing _).drew (fun _ _=>id);obtain⟨q',w8,r1,o8,f8,t8⟩:=fF.app (x:=⟨some ⟨w5.heap.size,0,none⟩,1,1⟩) Tryz.underlying26 TM rfl (by decide) dA EF (iV.out.fr.new FB) Z6 (Nat.le_trans iV.out.bl FB.size) (by simp only[List.length_append,List.length_singleton];unfold maxLen;omega) (by simp only[List.length_append,List.length_singleton];omega)
  have hvb:base<=w2.heap.size:=by have:=HH.out.bl;omega
  have Bw:∀b,qv.ob=some b->¬Ob qf qh rp ⟨Hy,rat,rv,⟨sa,st.length,sc⟩⟩ b/\b≠mb:=fun b e=>by
   have h1:=(HOV.out.lt (mY e).2).1;refine⟨fun e2=>?_,by omega⟩
   have:Ob qf qh rp ⟨Hy,rat,rv,⟨sa,st.length+xs.length,sc⟩⟩ b:=by
    rcases e2 with e2|e2|e2|e2|e2
    ·exact .inl e2
    ·exact .inr (.inl e2)
    ·exact .inr (.inr (.inl e2))
    ·exact .inr (.inr (.inr (.inl ((qJ sa (st.length+xs.length) st.length sc).trans e2))))
    ·exact .inr (.inr (.inr (.inr e2)))
   have:=dF b this;omega
  obtain⟨hG,hc4,hz4,hm8,hFG⟩:=iV.out.deeper (fn:=fn) (vs:=xs++List.replicate (n-xs.length) v0) FB ((HOV.out.new FB).low hvb).WW Bw o8 f8 (fun b hb=>(t8 b hb).imp id (fun e=>by omega));have F58:Fr (fun k=>qf.ob=some k) w5 w8:=(FB.mono (fun _ _ e=>e.elim)).trans f8;have hnq:¬qf.ob=some nb:=fun e=>by have:=dF nb (.inl e);omega
  have hS:Hid (∀w',Fr (fun k=>qf.ob=some k) w5 w'->w'.cell? ⟨mb,4,none⟩=some (.slice qf.a (rp.length+1) qf.c)/\w'.cell? ⟨nb,0,none⟩=some (.int .i64 fn)/\w'.cell? ⟨nb,1,none⟩=some (.int .i64 0)/\w'.cell? ⟨nb,2,none⟩=some (.slice qv.a qv.n qv.c)/\w'.cell? ⟨nb,3,none⟩=some (.slice none 0 0)):=fun w' hf=>
   ⟨(hf.cell (p:=⟨mb,4,none⟩) iV.out.mw (fun e=>iV.out.nm mb (.inl e) rfl)).trans Y1,(hf.cell (p:=⟨nb,0,none⟩) oJ hnq).trans d0,(hf.cell (p:=⟨nb,1,none⟩) oJ hnq).trans d1,(hf.cell (p:=⟨nb,2,none⟩) oJ hnq).trans d2,(hf.cell (p:=⟨nb,3,none⟩) oJ hnq).trans d3⟩
  have HG2:=hide hG;have HFG:Hid (Fr (fun k=>Ob qf qh rp ⟨Hy,rat,rv,⟨sa,st.length+xs.length,sc⟩⟩ k\/k=mb) wA (w8.setCell ⟨mb,4,none⟩ (.slice q'.a q'.n q'.c))):=aX.out.then hFG (fun k hk e=>by
   rcases e with e|e
   ·rcases e with e|e|e|e|e
    ·exact .inl (.inl e)
    ·exact .inl (.inr (.inl e))
    ·exact .inl (.inr (.inr (.inl e)))
    ·exact .inl (.inr (.inr (.inr (.inl ((qJ sa (st.length+xs.length) st.length sc).trans e)))))
    ·exact .inl (.inr (.inr (.inr (.inr e))))
   ·exact .inr e)
  have TL:Hid (∀k,Ob q' qh (rp++ [⟨Hy,rat,rv,⟨sa,st.length,sc⟩⟩]) ⟨fn,0,qv,aN⟩ k->Ob qf qh rp ⟨Hy,rat,rv,⟨sa,st.length+xs.length,sc⟩⟩ k\/w.heap.size<k):=fun k hk=>by
   rcases hk with e|e|e|e|⟨q,hq,e⟩
   ·rcases t8 k e with e|e
    ·exact .inl (.inl e)
    ·rw[zB] at e;exact .inr (by omega)
   ·exact .inl (.inr (.inl e))
   ·have:=(HOV.out.lt (mY e).2).1;exact .inr (by omega)
   ·cases e
   ·rcases oL hq with hq|rfl
    ·exact .inl (.inr (.inr (.inr (.inr ⟨q,hq,e⟩))))
    ·rcases e with e|e
     ·exact .inl (.inr (.inr (.inl e)))
     ·exact .inl (.inr (.inr (.inr (.inl ((qJ sa (st.length+xs.length) st.length sc).trans e)))))
  have hS5:=hS.out _ (Fr.refl _ w5).drew;have Xf:=hS.out _ (FB.mono (fun _ _ e=>e.elim));have TK:=hS.out _ F58;have hqn5:(rp++ [(⟨Hy,rat,rv,⟨sa,st.length,sc⟩⟩:aQ)]).length=rp.length+1:=by simp
  rw[nL] at r1;clear hg2 hG hFG o8 f8 t8 F58 hnq HOV Z6 d0 d1 d2 d3 Y1 Bw hgc hgz;refine aS (S:=fun w'=>w'.cell? ⟨mb,4,none⟩=some (.slice qf.a (rp.length+1) qf.c)/\w'.cell? ⟨nb,0,none⟩=some (.int .i64 fn)/\w'.cell? ⟨nb,1,none⟩=some (.int .i64 0)/\w'.cell? ⟨nb,2,none⟩=some (.slice qv.a qv.n qv.c)/\w'.cell? ⟨nb,3,none⟩=some (.slice none 0 0)) (by kernel_rfl) [12] hS5 (fun hHeld=>?_)
  refine bM 0 ?_
  refine bM 1 ?_
  refine bM 2 ?_
  refine bM 3 ?_
  refine bM 4 ?_
  refine bM 5 ?_
  refine bM 6 ?_
  refine jN 7 (fun K hK=>?_)
  go_simp;refine hK.out _ _ Xf ?_
  clear hK K hHeld
  try simp only[Act.put,sA,sZ,sS]
  refine jN 8 (fun K hK=>?_)
  refine fT rfl _ _ 26 rfl _ _ (by simp[Act.eval]) (by simp[Act.eval]) r1 ?_
  refine hK.out _ _ TK ?_
  clear hK K
  try simp only[Act.put,sA,sZ,sS]
  refine jN 9 (fun K hK=>?_)
  go_simp;refine hK.out _ _ TK ?_
  clear hK K
  try simp only[Act.put,sA,sZ,sS]
  refine jN 10 (fun K hK=>?_)
  go_simp;refine hK.out _ _ TK ?_
  clear hK K
  try simp only[Act.put,sA,sZ,sS]
  have hHeld:=TK;refine bM 11 ?_
  refine Al 12 (fun K hK=>?_)
  go_simp;refine hK.out _ _ ?_
  clear hK K
  try simp only[Act.put,sA,sZ,sS]
  refine wpAny_done (by kernel_rfl) ?_ _
  obtain⟨n0,n1,n2,⟨z0,z1,z2⟩,nl⟩:=bV.out _ HFG.out;have HG9:=HG2;have nM:=HFG;generalize w8.setCell ⟨mb,4,none⟩ (.slice q'.a q'.n q'.c)=w9 at*
  go_wp2_with fail
  refine bodyPost_ret (v:=je dB) (by simp[results,Tryz.results48,go_sem,n0,n1,n2,bs]) rfl ?_
  exact MR.fin (ev:=dB) HH.out.bl HH.out.ml dL.out nM.out HG9.out TL.out dF _ _ _
end
end
section
theorem pU (x:jQ):(bZ x).length=3:=rfl
theorem OU (x:jQ):∀u∈bZ x,u.oneCell'=true:=by simp[bZ,Value.oneCell']
theorem BH (x:In):(encI x).length=3:=rfl
theorem OV (x:In):∀u∈encI x,u.oneCell'=true:=by simp[encI,Value.oneCell']
theorem BI (x:Bs):(jP x).length=1:=rfl
theorem OW (x:Bs):∀u∈jP x,u.oneCell'=true:=by simp[jP,Value.oneCell']
theorem H8:(Tryz.prog.info? 53).map (fun i=>(i.zero,i.size,i.bytes))=some (some (.agg #[.int .i64 0,.int .i64 0,.string ⟨#[]⟩]),3,32):=by kernel_rfl
theorem xV (q:ai) (l:List Val) (w:World) (hs:Sl aP 3 w q.v l) (hl:l.length<=1000000):
 Calls Tryz.prog 34 #[.slice q.a q.n q.c] w fun e w'=>∃q':ai,e=.returned (.slice q'.a q'.n q'.c)/\Fr nothing w w'/\fF aP 53 3 w.heap.size q' l w':=by
 obtain⟨hn,hm⟩:=ay hs;obtain⟨qa,qn,qc⟩:=q;simp only at hn;subst hn;cases qa with
 |none=>
  have hl0:l=[]:=by
   cases l with
   |nil=>rfl
   |cons y l=>
    obtain⟨ao,cap,he,_,hc⟩:=hs;obtain⟨b,off,e,_⟩:=hc 0 y rfl;simp only[ai.v,Value.slice.injEq] at he;rw[e] at he;exact absurd he.1 (by simp)
  subst hl0;clear hs;have hE:(binOp .eql 49 (.slice none 0 qc) (.slice none 0 0)).run Tryz.prog w=.ok (.bool true) w:=Lib.run_eql_slice_nil w 49 53 none 0 qc 0 0 Tryz.underlying49
  go_enter Tryz.func34,Tryz.ntmps34
  go_wp2
  go_ret
  exact⟨aN,rfl,Fr.refl _ _,fF.nil _ _ _ _ _⟩
 |some ad=>
  have FA:Fr nothing w (w.alloc (.cells #[] 53)):=(Fr.refl _ _).alloc _;obtain⟨q',w3,r1,o3,f3,t3⟩:=fF.app (base:=w.heap.size) (q:=⟨some ⟨w.heap.size,0,none⟩,0,0⟩) (x:=⟨some ad,l.length,qc⟩) Tryz.underlying49 H8 rfl (by decide) aK lZ (w:=w.alloc (.cells #[] 53)) (xs:=[]) ⟨rfl,.inr ⟨rfl,rfl⟩⟩ (hs.fr FA (fun _ _=>id)) FA.size (by simp;unfold maxLen;omega) (by simp;omega)
  rw[List.nil_append] at o3;have HF:Hid (Fr nothing w w3):=FA.trans (f3.mono (fun k _ e=>by cases e));have HO:=hide o3;have HR:=hide r1;clear hs o3 f3 t3 FA r1;have hE:(binOp .eql 49 (.slice (some ad) l.length qc) (.slice none 0 0)).run Tryz.prog w=.ok (.bool false) w:=Lib.run_eql_slice_nil w 49 53 (some ad) l.length qc 0 0 Tryz.underlying49
  go_enter Tryz.func34,Tryz.ntmps34
  go_wp2_with (at_builtin;refine aD rfl _ _ 49 rfl _ _ rfl rfl HR.out ?_)
  go_ret
  exact⟨q',rfl,HF.out,HO.out⟩
theorem Xg:(Tryz.prog.info? 88).map (fun i=>(i.zero,i.size,i.bytes))=some (some (.agg #[.int .i64 0,.int .i64 0,.string ⟨#[]⟩,.int .i64 0,.int .i64 0,.string ⟨#[]⟩]),6,64):=by kernel_rfl
theorem H9 (q:ai) (l:List aV) (w:World) (hs:Sl jv 6 w q.v l) (hl:l.length<=1000000):
 Calls Tryz.prog 35 #[.slice q.a q.n q.c] w fun e w'=>∃q':ai,e=.returned (.slice q'.a q'.n q'.c)/\Fr nothing w w'/\fF jv 88 6 w.heap.size q' l w':=by
 obtain⟨hn,hm⟩:=ay hs;obtain⟨qa,qn,qc⟩:=q;simp only at hn;subst hn;cases qa with
 |none=>
  have hl0:l=[]:=by
   cases l with
   |nil=>rfl
   |cons y l=>
    obtain⟨ao,cap,he,_,hc⟩:=hs;obtain⟨b,off,e,_⟩:=hc 0 y rfl;simp only[ai.v,Value.slice.injEq] at he;rw[e] at he;exact absurd he.1 (by simp)
  subst hl0;clear hs;have hE:(binOp .eql 27 (.slice none 0 qc) (.slice none 0 0)).run Tryz.prog w=.ok (.bool true) w:=Lib.run_eql_slice_nil w 27 88 none 0 qc 0 0 Tryz.underlying27
  go_enter Tryz.func35,Tryz.ntmps35
  go_wp2
  go_ret
  exact⟨aN,rfl,Fr.refl _ _,fF.nil _ _ _ _ _⟩
 |some ad=>
  have FA:Fr nothing w (w.alloc (.cells #[] 88)):=(Fr.refl _ _).alloc _;obtain⟨q',w3,r1,o3,f3,t3⟩:=fF.app (base:=w.heap.size) (q:=⟨some ⟨w.heap.size,0,none⟩,0,0⟩) (x:=⟨some ad,l.length,qc⟩) Tryz.underlying27 Xg rfl (by decide) bY EE (w:=w.alloc (.cells #[] 88)) (xs:=[]) ⟨rfl,.inr ⟨rfl,rfl⟩⟩ (hs.fr FA (fun _ _=>id)) FA.size (by simp;unfold maxLen;omega) (by simp;omega)
  rw[List.nil_append] at o3;have HF:Hid (Fr nothing w w3):=FA.trans (f3.mono (fun k _ e=>by cases e));have HO:=hide o3;have HR:=hide r1;clear hs o3 f3 t3 FA r1;have hE:(binOp .eql 27 (.slice (some ad) l.length qc) (.slice none 0 0)).run Tryz.prog w=.ok (.bool false) w:=Lib.run_eql_slice_nil w 27 88 (some ad) l.length qc 0 0 Tryz.underlying27
  go_enter Tryz.func35,Tryz.ntmps35
  go_wp2_with (at_builtin;refine aD rfl _ _ 27 rfl _ _ rfl rfl HR.out ?_)
  go_ret
  exact⟨q',rfl,HF.out,HO.out⟩
theorem Xh:(Tryz.prog.info? 51).map (fun i=>(i.zero,i.size,i.bytes))=some (some (.agg #[.int .i64 0,.int .i64 0,.slice none 0 0,.slice none 0 0]),4,64):=by kernel_rfl
theorem Ia (q:ai) (l:List aQ) (w:World) (hs:Sl lU 4 w q.v l) (hl:l.length<=1000000):
 Calls Tryz.prog 33 #[.slice q.a q.n q.c] w fun e w'=>∃q':ai,e=.returned (.slice q'.a q'.n q'.c)/\Fr nothing w w'/\fF lU 51 4 w.heap.size q' l w':=by
 obtain⟨hn,hm⟩:=ay hs;obtain⟨qa,qn,qc⟩:=q;simp only at hn;subst hn;cases qa with
 |none=>
  have hl0:l=[]:=by
   cases l with
   |nil=>rfl
   |cons y l=>
    obtain⟨ao,cap,he,_,hc⟩:=hs;obtain⟨b,off,e,_⟩:=hc 0 y rfl;simp only[ai.v,Value.slice.injEq] at he;rw[e] at he;exact absurd he.1 (by simp)
  subst hl0;clear hs;have hE:(binOp .eql 26 (.slice none 0 qc) (.slice none 0 0)).run Tryz.prog w=.ok (.bool true) w:=Lib.run_eql_slice_nil w 26 51 none 0 qc 0 0 Tryz.underlying26
  go_enter Tryz.func33,Tryz.ntmps33
  go_wp2
  go_ret
  exact⟨aN,rfl,Fr.refl _ _,fF.nil _ _ _ _ _⟩
 |some ad=>
  have FA:Fr nothing w (w.alloc (.cells #[] 51)):=(Fr.refl _ _).alloc _;obtain⟨q',w3,r1,o3,f3,t3⟩:=fF.app (base:=w.heap.size) (q:=⟨some ⟨w.heap.size,0,none⟩,0,0⟩) (x:=⟨some ad,l.length,qc⟩) Tryz.underlying26 Xh rfl (by decide) dA EF (w:=w.alloc (.cells #[] 51)) (xs:=[]) ⟨rfl,.inr ⟨rfl,rfl⟩⟩ (hs.fr FA (fun _ _=>id)) FA.size (by simp;unfold maxLen;omega) (by simp;omega)
  rw[List.nil_append] at o3;have HF:Hid (Fr nothing w w3):=FA.trans (f3.mono (fun k _ e=>by cases e));have HO:=hide o3;have HR:=hide r1;clear hs o3 f3 t3 FA r1;have hE:(binOp .eql 26 (.slice (some ad) l.length qc) (.slice none 0 0)).run Tryz.prog w=.ok (.bool false) w:=Lib.run_eql_slice_nil w 26 51 (some ad) l.length qc 0 0 Tryz.underlying26
  go_enter Tryz.func33,Tryz.ntmps33
  go_wp2_with (at_builtin;refine aD rfl _ _ 26 rfl _ _ rfl rfl HR.out ?_)
  go_ret
  exact⟨q',rfl,HF.out,HO.out⟩
theorem Xi:(Tryz.prog.info? 79).map (fun i=>(i.zero,i.size,i.bytes))=some (some (.agg #[.int .i64 0,.int .i64 0,.slice none 0 0]),3,40):=by kernel_rfl
theorem Ib (q:ai) (l:List jQ) (w:World) (hs:Sl bZ 3 w q.v l) (hl:l.length<=1000000):
 Calls Tryz.prog 30 #[.slice q.a q.n q.c] w fun e w'=>∃q':ai,e=.returned (.slice q'.a q'.n q'.c)/\Fr nothing w w'/\fF bZ 79 3 w.heap.size q' l w':=by
 obtain⟨hn,hm⟩:=ay hs;obtain⟨qa,qn,qc⟩:=q;simp only at hn;subst hn;cases qa with
 |none=>
  have hl0:l=[]:=by
   cases l with
   |nil=>rfl
   |cons y l=>
    obtain⟨ao,cap,he,_,hc⟩:=hs;obtain⟨b,off,e,_⟩:=hc 0 y rfl;simp only[ai.v,Value.slice.injEq] at he;rw[e] at he;exact absurd he.1 (by simp)
  subst hl0;clear hs;have hE:(binOp .eql 22 (.slice none 0 qc) (.slice none 0 0)).run Tryz.prog w=.ok (.bool true) w:=Lib.run_eql_slice_nil w 22 79 none 0 qc 0 0 Tryz.underlying22
  go_enter Tryz.func30,Tryz.ntmps30
  go_wp2
  go_ret
  exact⟨aN,rfl,Fr.refl _ _,fF.nil _ _ _ _ _⟩
 |some ad=>
  have FA:Fr nothing w (w.alloc (.cells #[] 79)):=(Fr.refl _ _).alloc _;obtain⟨q',w3,r1,o3,f3,t3⟩:=fF.app (base:=w.heap.size) (q:=⟨some ⟨w.heap.size,0,none⟩,0,0⟩) (x:=⟨some ad,l.length,qc⟩) Tryz.underlying22 Xi rfl (by decide) pU OU (w:=w.alloc (.cells #[] 79)) (xs:=[]) ⟨rfl,.inr ⟨rfl,rfl⟩⟩ (hs.fr FA (fun _ _=>id)) FA.size (by simp;unfold maxLen;omega) (by simp;omega)
  rw[List.nil_append] at o3;have HF:Hid (Fr nothing w w3):=FA.trans (f3.mono (fun k _ e=>by cases e));have HO:=hide o3;have HR:=hide r1;clear hs o3 f3 t3 FA r1;have hE:(binOp .eql 22 (.slice (some ad) l.length qc) (.slice none 0 0)).run Tryz.prog w=.ok (.bool false) w:=Lib.run_eql_slice_nil w 22 79 (some ad) l.length qc 0 0 Tryz.underlying22
  go_enter Tryz.func30,Tryz.ntmps30
  go_wp2_with (at_builtin;refine aD rfl _ _ 22 rfl _ _ rfl rfl HR.out ?_)
  go_ret
  exact⟨q',rfl,HF.out,HO.out⟩
theorem Xj:(Tryz.prog.info? 82).map (fun i=>(i.zero,i.size,i.bytes))=some (some (.agg #[.int .i64 0,.int .i64 0,.int .i64 0]),3,24):=by kernel_rfl
theorem Ic (q:ai) (l:List In) (w:World) (hs:Sl encI 3 w q.v l) (hl:l.length<=1000000):
 Calls Tryz.prog 31 #[.slice q.a q.n q.c] w fun e w'=>∃q':ai,e=.returned (.slice q'.a q'.n q'.c)/\Fr nothing w w'/\fF encI 82 3 w.heap.size q' l w':=by
 obtain⟨hn,hm⟩:=ay hs;obtain⟨qa,qn,qc⟩:=q;simp only at hn;subst hn;cases qa with
 |none=>
  have hl0:l=[]:=by
   cases l with
   |nil=>rfl
   |cons y l=>
    obtain⟨ao,cap,he,_,hc⟩:=hs;obtain⟨b,off,e,_⟩:=hc 0 y rfl;simp only[ai.v,Value.slice.injEq] at he;rw[e] at he;exact absurd he.1 (by simp)
  subst hl0;clear hs;have hE:(binOp .eql 77 (.slice none 0 qc) (.slice none 0 0)).run Tryz.prog w=.ok (.bool true) w:=Lib.run_eql_slice_nil w 77 82 none 0 qc 0 0 Tryz.underlying77
  go_enter Tryz.func31,Tryz.ntmps31
  go_wp2
  go_ret
  exact⟨aN,rfl,Fr.refl _ _,fF.nil _ _ _ _ _⟩
 |some ad=>
  have FA:Fr nothing w (w.alloc (.cells #[] 82)):=(Fr.refl _ _).alloc _;obtain⟨q',w3,r1,o3,f3,t3⟩:=fF.app (base:=w.heap.size) (q:=⟨some ⟨w.heap.size,0,none⟩,0,0⟩) (x:=⟨some ad,l.length,qc⟩) Tryz.underlying77 Xj rfl (by decide) BH OV (w:=w.alloc (.cells #[] 82)) (xs:=[]) ⟨rfl,.inr ⟨rfl,rfl⟩⟩ (hs.fr FA (fun _ _=>id)) FA.size (by simp;unfold maxLen;omega) (by simp;omega)
  rw[List.nil_append] at o3;have HF:Hid (Fr nothing w w3):=FA.trans (f3.mono (fun k _ e=>by cases e));have HO:=hide o3;have HR:=hide r1;clear hs o3 f3 t3 FA r1;have hE:(binOp .eql 77 (.slice (some ad) l.length qc) (.slice none 0 0)).run Tryz.prog w=.ok (.bool false) w:=Lib.run_eql_slice_nil w 77 82 (some ad) l.length qc 0 0 Tryz.underlying77
  go_enter Tryz.func31,Tryz.ntmps31
  go_wp2_with (at_builtin;refine aD rfl _ _ 77 rfl _ _ rfl rfl HR.out ?_)
  go_ret
  exact⟨q',rfl,HF.out,HO.out⟩
theorem Xk:(Tryz.prog.info? 9).map (fun i=>(i.zero,i.size,i.bytes))=some (some (.string ⟨#[]⟩),1,16):=by kernel_rfl
theorem Ie (q:ai) (l:List Bs) (w:World) (hs:Sl jP 1 w q.v l) (hl:l.length<=1000000):
 Calls Tryz.prog 32 #[.slice q.a q.n q.c] w fun e w'=>∃q':ai,e=.returned (.slice q'.a q'.n q'.c)/\Fr nothing w w'/\fF jP 9 1 w.heap.size q' l w':=by
 obtain⟨hn,hm⟩:=ay hs;obtain⟨qa,qn,qc⟩:=q;simp only at hn;subst hn;cases qa with
 |none=>
  have hl0:l=[]:=by
   cases l with
   |nil=>rfl
   |cons y l=>
    obtain⟨ao,cap,he,_,hc⟩:=hs;obtain⟨b,off,e,_⟩:=hc 0 y rfl;simp only[ai.v,Value.slice.injEq] at he;rw[e] at he;exact absurd he.1 (by simp)
  subst hl0;clear hs;have hE:(binOp .eql 23 (.slice none 0 qc) (.slice none 0 0)).run Tryz.prog w=.ok (.bool true) w:=Lib.run_eql_slice_nil w 23 9 none 0 qc 0 0 Tryz.underlying23
  go_enter Tryz.func32,Tryz.ntmps32
  go_wp2
  go_ret
  exact⟨aN,rfl,Fr.refl _ _,fF.nil _ _ _ _ _⟩
 |some ad=>
  have FA:Fr nothing w (w.alloc (.cells #[] 9)):=(Fr.refl _ _).alloc _;obtain⟨q',w3,r1,o3,f3,t3⟩:=fF.app (base:=w.heap.size) (q:=⟨some ⟨w.heap.size,0,none⟩,0,0⟩) (x:=⟨some ad,l.length,qc⟩) Tryz.underlying23 Xk rfl (by decide) BI OW (w:=w.alloc (.cells #[] 9)) (xs:=[]) ⟨rfl,.inr ⟨rfl,rfl⟩⟩ (hs.fr FA (fun _ _=>id)) FA.size (by simp;unfold maxLen;omega) (by simp;omega)
  rw[List.nil_append] at o3;have HF:Hid (Fr nothing w w3):=FA.trans (f3.mono (fun k _ e=>by cases e));have HO:=hide o3;have HR:=hide r1;clear hs o3 f3 t3 FA r1;have hE:(binOp .eql 23 (.slice (some ad) l.length qc) (.slice none 0 0)).run Tryz.prog w=.ok (.bool false) w:=Lib.run_eql_slice_nil w 23 9 (some ad) l.length qc 0 0 Tryz.underlying23
  go_enter Tryz.func32,Tryz.ntmps32
  go_wp2_with (at_builtin;refine aD rfl _ _ 23 rfl _ _ rfl rfl HR.out ?_)
  go_ret
  exact⟨q',rfl,HF.out,HO.out⟩
end
section
abbrev OX:Ev:=⟨1,[],0⟩
def gD (sh:List aV->Val->Bs) (s:Sp):Nat->Ag->Ag×Ev
 |0,a=>(a,OX)
 |n+1,a=>if(jS sh a s).2.k=0 then gD sh s n (jS sh a s).1 else jS sh a s
structure sD (a:Ag) (r:Ag×Ev):Prop where
 fuel:r.1.fuel=a.fuel-1
 cells:(r.1.cells=a.cells/\r.1.hp.length=a.hp.length)\/(1<=a.cells/\r.1.cells=a.cells-1/\r.1.hp.length=a.hp.length+1)
 hops:(r.2.k=3/\0<a.hops/\r.1.hops=a.hops-1)\/(r.2.k≠3/\r.1.hops=a.hops)
 rest:r.2.k≠1
 ev:r.2.k=0->r.2=dB
theorem sD.ite {a:Ag} {c:Prop} [Decidable c] {x y:Ag×Ev} (h1:c->sD a x) (h2:¬c->sD a y):sD a (if c then x else y):=by
 by_cases h:c
 ·rw[if_pos h];exact h1 h
 ·rw[if_neg h];exact h2 h
theorem BJ {a a':Ag} (h1:a'.fuel=a.fuel-1) (h2:a'.cells=a.cells) (h3:a'.hp.length=a.hp.length) (h4:a'.hops=a.hops):sD a (a',dB):=⟨h1,.inl ⟨h2,h3⟩,.inr ⟨by show(0:Int)≠3;decide,h4⟩,by show(0:Int)≠1;decide,fun _=>rfl⟩
theorem Ig {a a':Ag} {k e:Int} {t:Bs} (h1:a'.fuel=a.fuel-1) (h2:a'.cells=a.cells) (h3:a'.hp.length=a.hp.length) (h4:a'.hops=a.hops) (hk:k≠0) (hk1:k≠1) (hk3:k≠3):sD a (a',⟨k,t,e⟩):=⟨h1,.inl ⟨h2,h3⟩,.inr ⟨hk3,h4⟩,hk1,fun e=>absurd e hk⟩
theorem Mr (sh:List aV->Val->Bs) (a:Ag) (s:Sp) (f:Fm) (i:In) (x:List Val):sD a (opC sh (aL a) s f i x):=by
 unfold opC
 repeat' (refine sD.ite (fun hc=>?_) (fun hc=>?_))
 all_goals first
  |exact BJ rfl rfl rfl rfl
  |exact Ig rfl rfl rfl rfl (by decide) (by decide) (by decide)
  |exact BJ rfl rfl (by simp[bI]) rfl
  |exact⟨rfl,.inr ⟨by have h2:¬a.cells<1:=hc;omega,rfl,by simp[bI]⟩,.inr ⟨by show(0:Int)≠3;decide,rfl⟩,by show(0:Int)≠1;decide,fun _=>rfl⟩
  |exact⟨rfl,.inl ⟨rfl,rfl⟩,.inl ⟨rfl,hc,rfl⟩,by show(3:Int)≠1;decide,fun e=>by cases e⟩
theorem vw {sh:List aV->Val->Bs} {a:Ag} {s:Sp} (h:a.fuel≠0):sD a (jS sh a s):=by
 unfold jS;rw[if_neg h];exact Mr _ _ _ _ _ _
theorem uE {sh:List aV->Val->Bs} {a:Ag} {s:Sp} (h:a.fuel=0):jS sh a s=(a,bQ 12):=by
 unfold jS;rw[if_pos h]
theorem OY {sh:List aV->Val->Bs} {a:Ag} {s:Sp} (he:(jS sh a s).2.k=0):(jS sh a s).2=dB:=by
 by_cases h:a.fuel=0
 ·rw[uE h] at he;cases he
 ·exact(vw h).ev he
structure Xl (n:Nat) (a:Ag) (r:Ag×Ev):Prop where
 f0:0<=r.1.fuel
 f1:r.1.fuel<=a.fuel
 f2:a.fuel-r.1.fuel<=n
 f3:r.2.k=1->a.fuel-r.1.fuel=n
 c0:0<=r.1.cells
 c1:r.1.cells<=a.cells
 c2:(r.1.hp.length:Int)-a.hp.length=a.cells-r.1.cells
 h0:0<=r.1.hops
 h1:r.1.hops<=a.hops
 h2:(r.2.k=3/\r.1.hops=a.hops-1)\/(r.2.k≠3/\r.1.hops=a.hops)
theorem vB (sh:List aV->Val->Bs) (s:Sp):∀(n:Nat) (a:Ag),0<=a.fuel->0<=a.cells->0<=a.hops->Xl n a (gD sh s n a)
 |0,a,h1,h2,h3=>⟨h1,Int.le_refl _,by show a.fuel-a.fuel<=_;omega,fun _=>by show a.fuel-a.fuel=_;omega,h2,Int.le_refl _,by show(a.hp.length:Int)-a.hp.length=a.cells-a.cells;omega,h3,Int.le_refl _,.inr ⟨by show(1:Int)≠3;decide,rfl⟩⟩
 |n+1,a,h1,h2,h3=>by
  rw[gD]
  by_cases hf:a.fuel=0
  ·rw[uE hf,if_neg (by show ¬(5:Int)=0;decide)];exact⟨h1,Int.le_refl _,by show a.fuel-a.fuel<=_;omega,fun e=>(by cases e),h2,Int.le_refl _,by show(a.hp.length:Int)-a.hp.length=a.cells-a.cells;omega,h3,Int.le_refl _,.inr ⟨by show(5:Int)≠3;decide,rfl⟩⟩
  ·have S:=vw (sh:=sh) (s:=s) hf;obtain⟨s1,s2,s3,s4,-⟩:=S;split
   ·rename_i he
    have R:=vB sh s n (jS sh a s).1 (by omega) (by omega) (by omega);obtain⟨r1,r2,r3,r4,r5,r6,r7,r8,r9,r10⟩:=R;exact⟨r1,by omega,by omega,fun e=>by have:=r4 e;omega,r5,by omega,by omega,r8,by omega,by omega⟩
   ·exact⟨by omega,by omega,by omega,fun e=>absurd e s4,by omega,by omega,by omega,by omega,by omega,by omega⟩
end
end Go.Proofs.YtbcadjgpcfmkfaaGreatDoor
