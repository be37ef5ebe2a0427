/- MJoin; MBack; MDeep; MBegun. -/
import Derived.Test.YtbcadjgpcfmkfaaGreatDoorPartU14
import Derived.Test.YtbcadjgpcfmkfaaGreatDoorPartU1
import Derived.Test.YtbcadjgpcfmkfaaGreatDoorPartU10
import Derived.Test.YtbcadjgpcfmkfaaGreatDoorPartU12
set_option maxHeartbeats 0
set_option maxRecDepth 100000
set_option linter.unusedSimpArgs false
namespace Go.Proofs.YtbcadjgpcfmkfaaGreatDoor
open Go Go.RowKit
section
section
variable {base mb : Nat} {x : Fx} {qf qh : ai} {rp : List aQ} {r : aQ} {m : Mc} {w : World}
theorem Mt.grow {w1:World} {q':ai} {hp':List aV} (h:Mt base mb x qf qh rp r m w) (hf:Fr (fun k=>qh.ob=some k) w w1) (ho:fF jv 88 6 base q' hp' w1) (hb:∀b,q'.ob=some b->qh.ob=some b\/w.heap.size<=b):
 Mt base mb x qf q' rp r {m with hp:=hp'} (w1.setCell ⟨mb,5,none⟩ (.slice q'.a q'.n q'.c))/\w1.cell? ⟨mb,5,none⟩=some (.slice qh.a qh.n qh.c)/\w1.frozen? ⟨mb,5,none⟩=false/\mb<w1.heap.size/\Fr (fun k=>Ob qf qh rp r k\/k=mb) w (w1.setCell ⟨mb,5,none⟩ (.slice q'.a q'.n q'.c)):=by
 have hml:=h.ml;have hm:¬qh.ob=some mb:=fun e=>h.nm mb (.inr (.inl e)) rfl;have hc:∀j,w1.cell? ⟨mb,j,none⟩=w.cell? ⟨mb,j,none⟩:=fun j=>hf.cell (p:=⟨mb,j,none⟩) h.mw hm
 have hF:Fr (fun k=>k=mb) w1 (w1.setCell ⟨mb,5,none⟩ (.slice q'.a q'.n q'.c)):=(Fr.refl (fun k=>k=mb) w1).setCell (p:=⟨mb,5,none⟩) (.inl rfl) _;have uD:∀i,i≠5->(w1.setCell ⟨mb,5,none⟩ (.slice q'.a q'.n q'.c)).cell? ⟨mb,i,none⟩=w.cell? ⟨mb,i,none⟩:=fun i hi=>(World.cell?_setCell_other w1 ⟨mb,5,none⟩ ⟨mb,i,none⟩ _ (by simp only[ne_eq,Addr.mk.injEq,true_and,and_true];exact fun e=>hi e.symm)).trans (hc i)
 have hz:∀j,(w1.setCell ⟨mb,5,none⟩ (.slice q'.a q'.n q'.c)).frozen? ⟨mb,j,none⟩=false:=fun j=>by rw[World.frozen?_setCell];exact(hf.frozen (p:=⟨mb,j,none⟩) h.mw hm).trans (h.z j)
 have hA:Fr (fun k=>qh.ob=some k\/k=mb) w (w1.setCell ⟨mb,5,none⟩ (.slice q'.a q'.n q'.c)):=(hf.mono (fun k _ e=> .inl e)).trans (hF.mono (fun k _ e=> .inr e));have hN:∀(q:ai),Dj qh q->(∀b,q.ob=some b->Ob qf qh rp r b)->∀b,q.ob=some b->¬(qh.ob=some b\/b=mb):=fun q hd hq b e e2=>by
  rcases e2 with e2|e2
  ·exact hd b e2 e
  ·exact h.nm b (hq b e) e2
 have hap:∀(y:ai),Dj qh y->(∀b,y.ob=some b->b<w.heap.size)->Dj q' y:=fun y hy hl b e1 e2=>by
  rcases hb b e1 with e3|e3
  ·exact hy b e3 e2
  ·have:=hl b e2;omega
 have hbq:∀b,q'.ob=some b->¬b=mb:=fun b e e2=>by
  rcases hb b e with e3|e3
  ·exact h.nm b (.inr (.inl e3)) e2
  ·omega
 have hrow:∀q∈rp,(∀b,q.v.ob=some b->base<=b/\b<w.heap.size)/\∀b,q.s.ob=some b->base<=b/\b<w.heap.size:=fun q hq=>
  ⟨fun b e=>h.ob (.inr (.inr (.inr (.inr ⟨q,hq,.inl e⟩)))),fun b e=>h.ob (.inr (.inr (.inr (.inr ⟨q,hq,.inr e⟩))))⟩
 refine⟨⟨(uD 0 (by decide)).trans h.c0,(uD 1 (by decide)).trans h.c1,(uD 2 (by decide)).trans h.c2,(uD 3 (by decide)).trans h.c3,(uD 4 (by decide)).trans h.c4,World.cell?_setCell_same _ _ _ ((hc 5).trans h.c5),(uD 6 (by decide)).trans h.c6,(uD 7 (by decide)).trans h.c7,(uD 8 (by decide)).trans h.c8,(uD 9 (by decide)).trans h.c9,(uD 10 (by decide)).trans h.c10,(uD 11 (by decide)).trans h.c11,(uD 12 (by decide)).trans h.c12,
  hz,Nat.lt_of_lt_of_le h.ml hA.size,Nat.le_trans h.bl hA.size,h.fr.fr hA (hN qf h.Bz.symm (fun b e=> .inl e)),h.lp,fun i q g e1 e2=>(h.ep i q g e1 e2).fr hA (hN q.v (h.Ae q (List.mem_of_getElem? e1)).1 (fun b e=> .inr (.inr (.inr (.inr ⟨q,List.mem_of_getElem? e1,.inl e⟩))))) (hN q.s (h.Ae q (List.mem_of_getElem? e1)).2 (fun b e=> .inr (.inr (.inr (.inr ⟨q,List.mem_of_getElem? e1,.inr e⟩))))),
  h.et.fr hA (hN r.v h.De.1 (fun b e=> .inr (.inr (.inl e)))) (hN r.s h.De.2 (fun b e=> .inr (.inr (.inr (.inl e))))),ho.fr hF hbq,(hap qf h.Bz.symm (fun b e=>(h.fr.lt e).2)).symm,h.Az,⟨hap r.v h.De.1 (fun b e=>(h.et.v.lt e).2),hap r.s h.De.2 (fun b e=>(h.et.s.lt e).2)⟩,h.BA,fun q hq=>⟨hap q.v (h.Ae q hq).1 (fun b e=>((hrow q hq).1 b e).2),hap q.s (h.Ae q hq).2 (fun b e=>((hrow q hq).2 b e).2)⟩,h.Hq,h.AA,fun k hk=>by
   rcases hk with e|e|e
   ·exact h.nm k (.inl e)
   ·exact hbq k e
   ·exact h.nm k (.inr (.inr e))⟩,(hc 5).trans h.c5,(hf.frozen (p:=⟨mb,5,none⟩) h.mw hm).trans (h.z 5),Nat.lt_of_lt_of_le h.mw hf.size,hA.mono (fun k _ e=>e.imp (fun e=> .inr (.inl e)) id)⟩
theorem EE (x:aV):∀u∈jv x,u.oneCell'=true:=fun u hu=>by
 rcases List.mem_append.1 hu with hu|hu
 ·exact oF _ u hu
 ·exact oF _ u hu
theorem TG:(Tryz.prog.info? 88).map (fun i=>(i.zero,i.size,i.bytes))=some (some (.agg #[.int .i64 0,.int .i64 0,.string ⟨#[]⟩,.int .i64 0,.int .i64 0,.string ⟨#[]⟩]),6,64):=by kernel_rfl
theorem Mm (h:Mt base mb x qf qh rp r m w) (hl:rp.length<=1000) {st:List Val} {a b:Val} (hst:m.f.stack=st++ [a,b]) (hs:st.length<=1000) (hcl:-1000<=m.cells/\m.cells<=1000) (hpl:m.hp.length<=1000):
 Calls Tryz.prog 42 #[.pointer (some ⟨mb,0,none⟩)] w (MR base mb x (Ob qf qh rp r) w (if m.cells<1 then stk m st else{stk m (st++ [⟨2,m.hp.length,[]⟩]) with cells:=m.cells-1,hp:=m.hp++ [⟨a,b⟩]}) (if m.cells<1 then bQ 13 else dB)):=by
 have FA:Fr nothing w (w.alloc (.cells #[.int .i64 0,.string ⟨#[]⟩,.int .i64 0] 39)):=(Fr.refl _ _).alloc _;have mA:=af (Fr.refl nothing (w.alloc (.cells #[.int .i64 0,.string ⟨#[]⟩,.int .i64 0] 39))) id;have dF:∀k,Ob qf qh rp r k->k<w.heap.size:=fun k hk=>(h.ob hk).2
 have hnb:¬(Ob qf qh rp r w.heap.size\/w.heap.size=mb):=fun e=>by
  rcases e with e|e
  ·have:=dF _ e;omega
  ·have:=h.mw;omega
 obtain⟨wA,iU⟩:∃y,y=w.alloc (.cells #[.int .i64 0,.string ⟨#[]⟩,.int .i64 0] 39):=⟨_,rfl⟩
 rw[<-iU] at FA mA;have bV:Hid (∀w',Fr (fun k=>Ob qf qh rp r k\/k=mb) wA w'->w'.cell? ⟨w.heap.size,0,none⟩=some (.int .i64 0)/\w'.cell? ⟨w.heap.size,1,none⟩=some (.string ⟨#[]⟩)/\w'.cell? ⟨w.heap.size,2,none⟩=some (.int .i64 0)/\(w'.frozen? ⟨w.heap.size,0,none⟩=false/\w'.frozen? ⟨w.heap.size,1,none⟩=false/\w'.frozen? ⟨w.heap.size,2,none⟩=false)/\w.heap.size<w'.heap.size):=fun w' hf=>by
  have hc:∀j,w'.cell? ⟨w.heap.size,j,none⟩=_:=fun j=>(hf.cell (p:=⟨w.heap.size,j,none⟩) mA.2.2 hnb).trans (mA.1 j)
  have hz:∀j,w'.frozen? ⟨w.heap.size,j,none⟩=_:=fun j=>(hf.frozen (p:=⟨w.heap.size,j,none⟩) mA.2.2 hnb).trans (mA.2.1 j)
  exact⟨hc 0,hc 1,hc 2,⟨hz 0,hz 1,hz 2⟩,Nat.lt_of_lt_of_le mA.2.2 hf.size⟩
 have H0:=hide (h.new FA);have dL:=hide FA;have zA:wA.heap.size=w.heap.size+1:=by rw[iU];simp
 have hst':m.f.stack=(st++ [a])++ [b]:=by rw[hst];simp
 have pY:=hide (dM H0.out hl hst' (by simp;omega));have pQ:=iU.symm;have HH:=hide h;have Ey:=h.hp.n;clear h FA mA iU
 by_cases hk:m.cells<1
 ·rw[if_pos hk,if_pos hk];have hkb:m.cells<=0:=by omega
  go_enter Tryz.func42,Tryz.ntmps42
  go_wp2_with (first
   |(go_at_call 17;refine(jK 13 _).mono ?_;rintro e w6 ⟨rfl,aR⟩;have bg:=hide (((dX.out.alloc (.cells #[.int .i64 b.k,.int .i64 b.n,.string (bs b.t)] 53)).alloc (.cells #[.int .i64 a.k,.int .i64 a.n,.string (bs a.t)] 53)).trans (aR.mono (fun _ _ e=>e.elim)));have gI:=hide ((mF.out.new (((Fr.refl _ _).alloc (.cells #[.int .i64 b.k,.int .i64 b.n,.string (bs b.t)] 53)).alloc (.cells #[.int .i64 a.k,.int .i64 a.n,.string (bs a.t)] 53))).new aR);obtain⟨n0,n1,n2,⟨z0,z1,z2⟩,nl⟩:=bV.out w6 bg.out;clear aR)
   |(go_at_call 40;refine(dM EC.out hl (st:=st) (v:=a) rfl (by omega)).mono ?_;rintro e w3 ⟨rfl,hM2,eG,hf3⟩;have mF:=hide hM2;have dX:=hide (bq.out.trans (hf3.mono (fun k _ hk=> .inl (oH.out k hk))));have fM:=hide (fun k hk=>oH.out k (eG k hk));obtain⟨p0,p1,p2,⟨y0,y1,y2⟩,pl⟩:=bV.out w3 dX.out;have cm:=hM2.mw;have c7:=hM2.c7;have c5:=hM2.c5;have cz7:=hM2.z 7;clear hM2 hf3 eG)
   |(go_at_call 40;refine pY.out.mono ?_;rintro e w2 ⟨rfl,hM1,oI,hf2⟩;have EC:=hide hM1;have oH:=hide oI;have bq:Hid (Fr (fun k=>Ob qf qh rp r k\/k=mb) wA w2):=hf2.mono (fun k _ e=> .inl e);clear hM1 oI hf2))
  refine bodyPost_ret (v:=je (bQ 13)) (by simp[results,Tryz.results42,go_sem,n0,n1,n2]) rfl ?_
  exact MR.fin HH.out.bl HH.out.ml dL.out bg.out gI.out (fun k hk=> .inl (fM.out k hk)) dF _ _ _
 rw[if_neg hk,if_neg hk];have hkb:¬m.cells<=0:=by omega
 go_enter Tryz.func42,Tryz.ntmps42
 go_wp2_with (first
  |(go_at_call 40;refine(dM EC.out hl (st:=st) (v:=a) rfl (by omega)).mono ?_;rintro e w3 ⟨rfl,hM2,eG,hf3⟩;have mF:=hide hM2;have dX:=hide (bq.out.trans (hf3.mono (fun k _ hk=> .inl (oH.out k hk))));have fM:=hide (fun k hk=>oH.out k (eG k hk));obtain⟨p0,p1,p2,⟨y0,y1,y2⟩,pl⟩:=bV.out w3 dX.out;have cm:=hM2.mw;have c7:=hM2.c7;have c5:=hM2.c5;have cz7:=hM2.z 7;clear hM2 hf3 eG)
  |(go_at_call 40;refine pY.out.mono ?_;rintro e w2 ⟨rfl,hM1,oI,hf2⟩;have EC:=hide hM1;have oH:=hide oI;have bq:Hid (Fr (fun k=>Ob qf qh rp r k\/k=mb) wA w2):=hf2.mono (fun k _ e=> .inl e);clear hM1 oI hf2))
 have hCl:=mF.out.cel (m.cells-1);have HFc:=hide (dX.out.trans (hCl.2.mono (fun k _ e=> .inr e)));have HM3:=hide hCl.1;have OQ:(w3.setCell ⟨mb,7,none⟩ (.int .i64 (m.cells-1))).heap.size=w3.heap.size:=by simp
 clear hCl c7 c5 cz7 cm p0 p1 p2 y0 y1 y2 pl;have hvw:w.heap.size<w3.heap.size:=by have:=dX.out.size;omega
 generalize w3.setCell ⟨mb,7,none⟩ (.int .i64 (m.cells-1))=w4 at*;have mB:=af (w:=w4) (cs:=#[.int .i64 b.k,.int .i64 b.n,.string (bs b.t)]) (t:=53) (w1:=(w4.alloc (.cells #[.int .i64 b.k,.int .i64 b.n,.string (bs b.t)] 53)).alloc (.cells #[.int .i64 a.k,.int .i64 a.n,.string (bs a.t)] 53)) (S:=nothing) ((Fr.refl _ _).alloc _) id;have mA:=af (Fr.refl nothing ((w4.alloc (.cells #[.int .i64 b.k,.int .i64 b.n,.string (bs b.t)] 53)).alloc (.cells #[.int .i64 a.k,.int .i64 a.n,.string (bs a.t)] 53))) id;have hz1:(w4.alloc (.cells #[.int .i64 b.k,.int .i64 b.n,.string (bs b.t)] 53)).heap.size=w4.heap.size+1:=by simp
 rw[hz1,OQ] at mA;rw[OQ] at mB;have iV:=hide (HM3.out.new (((Fr.refl nothing w4).alloc (.cells #[.int .i64 b.k,.int .i64 b.n,.string (bs b.t)] 53)).alloc (.cells #[.int .i64 a.k,.int .i64 a.n,.string (bs a.t)] 53)));have aX:=hide ((HFc.out.alloc (.cells #[.int .i64 b.k,.int .i64 b.n,.string (bs b.t)] 53)).alloc (.cells #[.int .i64 a.k,.int .i64 a.n,.string (bs a.t)] 53));generalize(w4.alloc (.cells #[.int .i64 b.k,.int .i64 b.n,.string (bs b.t)] 53)).alloc (.cells #[.int .i64 a.k,.int .i64 a.n,.string (bs a.t)] 53)=w5 at*;refine(fC iV.out hl (by show st.length<=100000;omega) ⟨2,m.hp.length,[]⟩).mono ?_
 rintro e w6 ⟨rfl,⟨q',fD,iW⟩,aR⟩;have hnv:∀k,w3.heap.size<=k->¬Ob qf qh rp ⟨r.fn,r.at_,r.v,⟨r.s.a,st.length,r.s.c⟩⟩ k:=fun k hk e=>by have:=dF k (fM.out k e);omega
 have hB:∀j,w6.cell? ⟨w3.heap.size,j,none⟩=_:=fun j=>(aR.cell (p:=⟨w3.heap.size,j,none⟩) mB.2.2 (hnv w3.heap.size (Nat.le_refl _))).trans (mB.1 j)
 have hA:∀j,w6.cell? ⟨w3.heap.size+1,j,none⟩=_:=fun j=>(aR.cell (p:=⟨w3.heap.size+1,j,none⟩) mA.2.2 (hnv (w3.heap.size+1) (by omega))).trans (mA.1 j)
 have hBl:=Nat.lt_of_lt_of_le mB.2.2 aR.size;have Y0:=Nat.lt_of_lt_of_le mA.2.2 aR.size;have bg:=hide (aX.out.trans (aR.mono (fun k _ e=> .inl (fM.out k e))));have TH:∀k,Ob qf qh rp ⟨r.fn,r.at_,r.v,q'⟩ k->Ob qf qh rp r k\/w.heap.size<k:=fun k hk=>(iW k hk).imp (fM.out k) (fun e=>by have:=mB.2.2;omega)
 have FA:Fr nothing w6 (w6.alloc (.cells #[.int .i64 a.k,.int .i64 a.n,.string (bs a.t),.int .i64 b.k,.int .i64 b.n,.string (bs b.t)] 88)).drew:=((Fr.refl nothing w6).alloc _).drew;have zB:(w6.alloc (.cells #[.int .i64 a.k,.int .i64 a.n,.string (bs a.t),.int .i64 b.k,.int .i64 b.n,.string (bs b.t)] 88)).drew.heap.size=w6.heap.size+1:=by simp[World.drew]
 obtain⟨q2,w8,r1,o8,f8,t8⟩:=fF.app (x:=⟨some ⟨w6.heap.size,0,none⟩,1,1⟩) Tryz.underlying27 TG rfl (by decide) bY EE (fD.hp.new FA) ((xK (enc:=jv) (sz:=6) (T:=88) w6 #[.int .i64 a.k,.int .i64 a.n,.string (bs a.t),.int .i64 b.k,.int .i64 b.n,.string (bs b.t)] ⟨a,b⟩ rfl).fr (Fr.refl nothing _).drew (fun _ _=>id)) (Nat.le_trans fD.bl FA.size) (by show m.hp.length+1<=maxLen;unfold maxLen;omega) (by show(m.hp.length+1)*64<=_;omega);have TI:Fr (fun k=>qh.ob=some k) w6 w8:=(FA.mono (fun _ _ e=>e.elim)).trans f8;obtain⟨hG,TJ,oJ,hm8,hFG⟩:=fD.grow TI o8 (fun b hb=>(t8 b hb).imp id (fun e=>by rw[zB] at e;omega))
 have nL:qh.n=m.hp.length:=Ey;have c5:=fD.c5;rw[nL] at c5 TJ r1;have hS:∀w',Fr nothing w6 w'->(w'.cell? ⟨mb,5,none⟩=some (.slice qh.a m.hp.length qh.c)/\w'.cell? ⟨w3.heap.size,0,none⟩=some (.int .i64 b.k)/\w'.cell? ⟨w3.heap.size,1,none⟩=some (.int .i64 b.n)/\w'.cell? ⟨w3.heap.size,2,none⟩=some (.string (bs b.t)))/\w'.cell? ⟨w3.heap.size+1,0,none⟩=some (.int .i64 a.k)/\w'.cell? ⟨w3.heap.size+1,1,none⟩=some (.int .i64 a.n)/\w'.cell? ⟨w3.heap.size+1,2,none⟩=some (.string (bs a.t)):=fun w' hf=>⟨⟨(hf.cell (p:=⟨mb,5,none⟩) fD.mw id).trans c5,(hf.cell (p:=⟨w3.heap.size,0,none⟩) hBl id).trans (hB 0),(hf.cell (p:=⟨w3.heap.size,1,none⟩) hBl id).trans (hB 1),(hf.cell (p:=⟨w3.heap.size,2,none⟩) hBl id).trans (hB 2)⟩,(hf.cell (p:=⟨w3.heap.size+1,0,none⟩) Y0 id).trans (hA 0),(hf.cell (p:=⟨w3.heap.size+1,1,none⟩) Y0 id).trans (hA 1),(hf.cell (p:=⟨w3.heap.size+1,2,none⟩) Y0 id).trans (hA 2)⟩
 have Xb:∀k,w3.heap.size<=k->¬qh.ob=some k:=fun k hk e=>hnv k hk (.inr (.inl e))
 have TK:(fun w'=>(w'.cell? ⟨mb,5,none⟩=some (.slice qh.a m.hp.length qh.c)/\w'.cell? ⟨w3.heap.size,0,none⟩=some (.int .i64 b.k)/\w'.cell? ⟨w3.heap.size,1,none⟩=some (.int .i64 b.n)/\w'.cell? ⟨w3.heap.size,2,none⟩=some (.string (bs b.t)))/\w'.cell? ⟨w3.heap.size+1,0,none⟩=some (.int .i64 a.k)/\w'.cell? ⟨w3.heap.size+1,1,none⟩=some (.int .i64 a.n)/\w'.cell? ⟨w3.heap.size+1,2,none⟩=some (.string (bs a.t))) w8:=⟨⟨TJ,(TI.cell (p:=⟨w3.heap.size,0,none⟩) hBl (Xb w3.heap.size (Nat.le_refl _))).trans (hB 0),(TI.cell (p:=⟨w3.heap.size,1,none⟩) hBl (Xb w3.heap.size (Nat.le_refl _))).trans (hB 1),(TI.cell (p:=⟨w3.heap.size,2,none⟩) hBl (Xb w3.heap.size (Nat.le_refl _))).trans (hB 2)⟩,(TI.cell (p:=⟨w3.heap.size+1,0,none⟩) Y0 (Xb (w3.heap.size+1) (by omega))).trans (hA 0),(TI.cell (p:=⟨w3.heap.size+1,1,none⟩) Y0 (Xb (w3.heap.size+1) (by omega))).trans (hA 1),(TI.cell (p:=⟨w3.heap.size+1,2,none⟩) Y0 (Xb (w3.heap.size+1) (by omega))).trans (hA 2)⟩;have HG:=hide hG;have nM:Hid (Fr (fun k=>Ob qf qh rp r k\/k=mb) wA (w8.setCell ⟨mb,5,none⟩ (.slice q2.a q2.n q2.c))):=(bg.out.trans ((TI.mono (fun k _ e=> .inl (.inr (.inl e)))))).trans ((Fr.refl (fun k=>Ob qf qh rp r k\/k=mb) w8).setCell (p:=⟨mb,5,none⟩) (.inl (.inr rfl)) _);have TL:Hid (∀k,Ob qf q2 rp ⟨r.fn,r.at_,r.v,q'⟩ k->Ob qf qh rp r k\/w.heap.size<k):=fun k hk=>by
  rcases hk with e|e|e
  ·exact TH k (.inl e)
  ·rcases t8 k e with e|e
   ·exact TH k (.inr (.inl e))
   ·rw[zB] at e;exact .inr (by omega)
  ·exact TH k (.inr (.inr e))
 clear iW aR fD hnv hB hA TH o8 f8 t8 TI hG hFG Xb mA mB TJ c5
 go_wp2_with fail
 refine aS (S:=fun w'=>(w'.cell? ⟨mb,5,none⟩=some (.slice qh.a m.hp.length qh.c)/\w'.cell? ⟨w3.heap.size,0,none⟩=some (.int .i64 b.k)/\w'.cell? ⟨w3.heap.size,1,none⟩=some (.int .i64 b.n)/\w'.cell? ⟨w3.heap.size,2,none⟩=some (.string (bs b.t)))/\w'.cell? ⟨w3.heap.size+1,0,none⟩=some (.int .i64 a.k)/\w'.cell? ⟨w3.heap.size+1,1,none⟩=some (.int .i64 a.n)/\w'.cell? ⟨w3.heap.size+1,2,none⟩=some (.string (bs a.t))) (by kernel_rfl) [14] (hS _ (Fr.refl nothing w6).drew) (fun hHeld=>?_)
 refine bM 0 ?_
 refine bM 1 ?_
 refine bM 2 ?_
 refine bM 3 ?_
 refine bM 4 ?_
 refine bM 5 ?_
 refine bM 6 ?_
 refine bM 7 ?_
 refine bM 8 ?_
 refine jN 9 (fun K hK=>?_)
 go_simp;refine hK.out _ _ (hS _ FA) ?_
 clear hK K hHeld
 try simp only[Act.put,sA,sZ,sS]
 refine jN 10 (fun K hK=>?_)
 refine fT rfl _ _ 27 rfl _ _ (by simp[Act.eval]) (by simp[Act.eval]) r1 ?_
 refine hK.out _ _ TK ?_
 clear hK K
 try simp only[Act.put,sA,sZ,sS]
 refine jN 11 (fun K hK=>?_)
 go_simp;refine hK.out _ _ TK ?_
 clear hK K
 try simp only[Act.put,sA,sZ,sS]
 refine jN 12 (fun K hK=>?_)
 go_simp;refine hK.out _ _ TK ?_
 clear hK K
 try simp only[Act.put,sA,sZ,sS]
 have hHeld:=TK;refine bM 13 ?_
 refine Al 14 (fun K hK=>?_)
 go_simp;refine hK.out _ _ ?_
 clear hK K
 try simp only[Act.put,sA,sZ,sS]
 refine wpAny_done (by kernel_rfl) ?_ _
 obtain⟨n0,n1,n2,⟨z0,z1,z2⟩,nl⟩:=bV.out _ nM.out;have HG9:=HG;generalize w8.setCell ⟨mb,5,none⟩ (.slice q2.a q2.n q2.c)=w9 at*
 go_wp2_with fail
 refine bodyPost_ret (v:=je dB) (by simp[results,Tryz.results42,go_sem,n0,n1,n2,bs]) rfl ?_
 exact MR.fin (ev:=dB) HH.out.bl HH.out.ml dL.out nM.out HG9.out TL.out dF _ _ _
end
end
section
section
variable {base mb : Nat} {x : Fx} {qf qh : ai} {rp : List aQ} {r r' : aQ} {m : Mc} {w : World} {pre : List Fm} {g : Fm}
theorem Mt.back (h:Mt base mb x qf qh (rp++ [r']) r {m with pre:=pre++ [g]} w):
 Mt base mb x ⟨qf.a,rp.length+1,qf.c⟩ qh rp r' {m with pre:=pre,f:=g} (w.setCell ⟨mb,4,none⟩ (.slice qf.a (rp.length+1:Nat) qf.c))/\Fr (fun k=>k=mb) w (w.setCell ⟨mb,4,none⟩ (.slice qf.a (rp.length+1:Nat) qf.c))/\∀k,Ob ⟨qf.a,rp.length+1,qf.c⟩ qh rp r' k->Ob qf qh (rp++ [r']) r k:=by
 have hF:Fr (fun k=>k=mb) w (w.setCell ⟨mb,4,none⟩ (.slice qf.a (rp.length+1:Nat) qf.c)):=(Fr.refl (fun k=>k=mb) w).setCell (p:=⟨mb,4,none⟩) (.inl rfl) _;have ho:∀i,i≠4->(w.setCell ⟨mb,4,none⟩ (.slice qf.a (rp.length+1:Nat) qf.c)).cell? ⟨mb,i,none⟩=w.cell? ⟨mb,i,none⟩:=fun i hi=>World.cell?_setCell_other w ⟨mb,4,none⟩ ⟨mb,i,none⟩ _ (by simp only[ne_eq,Addr.mk.injEq,true_and,and_true];exact fun e=>hi e.symm)
 have hlen:rp.length=pre.length:=by have:=h.lp;simp at this;exact this
 have hcut:=h.fr.cut dA (rp.length+1) (by simp);have htk:((rp++ [r'])++ [r]).take (rp.length+1)=rp++ [r']:=by
  rw[List.take_append_of_le_length (by simp),List.take_of_length_le (by simp)]
 rw[htk] at hcut;have hmem:r'∈rp++ [r']:=by simp
 have hlt:(rp++ [r'])[rp.length]?=some r':=by simp
 have hel:∀(i:Nat) (q:aQ),rp[i]?=some q->(rp++ [r'])[i]?=some q:=fun i q e=>by rw[List.getElem?_append_left (List.getElem?_eq_some_iff.1 e).1];exact e
 have hep:=h.ep rp.length r' g hlt (by show(pre++ [g])[rp.length]?=some g;rw[hlen];simp);have hN:∀(q:ai),(∀b,q.ob=some b->Ob qf qh (rp++ [r']) r b)->∀b,q.ob=some b->¬b=mb:=fun q hq b e e2=>h.nm b (hq b e) e2
 have hpi:∀(i:Nat) (q:aQ) (f:Fm),rp[i]?=some q->pre[i]?=some f->Fo base q f w:=fun i q f e1 e2=>h.ep i q f (hel i q e1) (by show(pre++ [g])[i]?=some f;rw[List.getElem?_append_left (List.getElem?_eq_some_iff.1 e2).1];exact e2)
 have hi:∀(i:Nat) (q:aQ),rp[i]?=some q->i≠rp.length:=fun i q e=>by have:=(List.getElem?_eq_some_iff.1 e).1;omega
 have hqf:∀b,(⟨qf.a,rp.length+1,qf.c⟩:ai).ob=some b->qf.ob=some b:=fun b e=>(qJ qf.a qf.n (rp.length+1) qf.c).trans e
 have dF:∀k,Ob ⟨qf.a,rp.length+1,qf.c⟩ qh rp r' k->Ob qf qh (rp++ [r']) r k:=fun k hk=>by
  rcases hk with e|e|e|e|⟨q,hq,e⟩
  ·exact .inl (hqf k e)
  ·exact .inr (.inl e)
  ·exact .inr (.inr (.inr (.inr ⟨r',hmem,.inl e⟩)))
  ·exact .inr (.inr (.inr (.inr ⟨r',hmem,.inr e⟩)))
  ·exact .inr (.inr (.inr (.inr ⟨q,by simp[hq],e⟩)))
 refine⟨⟨(ho 0 (by decide)).trans h.c0,(ho 1 (by decide)).trans h.c1,(ho 2 (by decide)).trans h.c2,(ho 3 (by decide)).trans h.c3,World.cell?_setCell_same _ _ _ h.c4,(ho 5 (by decide)).trans h.c5,(ho 6 (by decide)).trans h.c6,(ho 7 (by decide)).trans h.c7,(ho 8 (by decide)).trans h.c8,(ho 9 (by decide)).trans h.c9,(ho 10 (by decide)).trans h.c10,(ho 11 (by decide)).trans h.c11,(ho 12 (by decide)).trans h.c12,
  fun i=>by rw[World.frozen?_setCell];exact h.z i,Nat.lt_of_lt_of_le h.ml hF.size,Nat.le_trans h.bl hF.size,hcut.fr hF (fun b e=>h.nm b (.inl (hqf b e))),hlen,fun i q f e1 e2=>(hpi i q f e1 e2).fr hF (hN _ (fun b e=> .inr (.inr (.inr (.inr ⟨q,List.mem_append_left _ (List.mem_of_getElem? e1),.inl e⟩))))) (hN _ (fun b e=> .inr (.inr (.inr (.inr ⟨q,List.mem_append_left _ (List.mem_of_getElem? e1),.inr e⟩))))),hep.fr hF (hN _ (fun b e=> .inr (.inr (.inr (.inr ⟨r',hmem,.inl e⟩))))) (hN _ (fun b e=> .inr (.inr (.inr (.inr ⟨r',hmem,.inr e⟩))))),h.hp.fr hF (hN _ (fun b e=> .inr (.inl e))),
  h.Bz.cut _,⟨(h.BA r' hmem).1.cut _,(h.BA r' hmem).2.cut _⟩,h.Ae r' hmem,fun q hq=>⟨(h.BA q (by simp[hq])).1.cut _,(h.BA q (by simp[hq])).2.cut _⟩,fun q hq=>h.Ae q (by simp[hq]),fun q hq=>?_,fun i j q q' hij e1 e2=>h.AA i j q q' hij (hel i q e1) (hel j q' e2),fun k hk=>h.nm k (dF k hk)⟩,hF,dF⟩
 ·obtain⟨i,e1⟩:=List.mem_iff_getElem?.1 hq;exact h.AA rp.length i r' q (fun e=>hi i q e1 e.symm) hlt (hel i q e1)
end
end
section
section
variable {base mb : Nat} {x : Fx} {qf qh : ai} {rp : List aQ} {r : aQ} {m : Mc} {w : World}
theorem kG {α:Type} {l:List α} {a y:α} {i:Nat} (h:(l++ [a])[i]?=some y):(l[i]?=some y/\i<l.length)\/(i=l.length/\y=a):=by
 have hlt:=(List.getElem?_eq_some_iff.1 h).1;simp only[List.length_append,List.length_singleton] at hlt
 by_cases hi:i<l.length
 ·rw[List.getElem?_append_left hi] at h;exact .inl ⟨h,hi⟩
 ·obtain rfl:i=l.length:=by omega
  exact .inr ⟨rfl,by simpa using h.symm⟩
theorem oL {α:Type} {l:List α} {a y:α} (h:y∈l++ [a]):y∈l\/y=a:=by
 rcases List.mem_append.1 h with h|h
 ·exact .inl h
 ·exact .inr (List.mem_singleton.1 h)
theorem Mt.deeper {w1 w2:World} {q' qv:ai} {vs:List Val} {fn:Int} (h:Mt base mb x qf qh rp r m w) (hf1:Fr nothing w w1) (hv:fF aP 53 3 base qv vs w1) (Bw:∀b,qv.ob=some b->¬Ob qf qh rp r b/\b≠mb) (ho:fF lU 51 4 base q' ((rp++ [r])++ [⟨fn,0,qv,aN⟩]) w2) (hf:Fr (fun k=>qf.ob=some k) w1 w2) (hb:∀b,q'.ob=some b->qf.ob=some b\/w1.heap.size<=b):
 Mt base mb x q' qh (rp++ [r]) ⟨fn,0,qv,aN⟩ {m with pre:=m.pre++ [m.f],f:=⟨fn,0,vs,[]⟩} (w2.setCell ⟨mb,4,none⟩ (.slice q'.a q'.n q'.c))/\w2.cell? ⟨mb,4,none⟩=some (.slice qf.a qf.n qf.c)/\w2.frozen? ⟨mb,4,none⟩=false/\mb<w2.heap.size/\Fr (fun k=>Ob qf qh rp r k\/k=mb) w (w2.setCell ⟨mb,4,none⟩ (.slice q'.a q'.n q'.c)):=by
 have hml:=h.ml;have h1:=h.new hf1;have hsz:=hf1.size;have hsz2:=hf.size;have hlt:∀b,Ob qf qh rp r b->base<=b/\b<w.heap.size:=fun b e=>h.ob e
 have hqf:∀b,qf.ob=some b->base<=b/\b<w.heap.size:=fun b e=>h.fr.lt e
 have hm:¬qf.ob=some mb:=fun e=>h.nm mb (.inl e) rfl;have hc:∀j,w2.cell? ⟨mb,j,none⟩=w1.cell? ⟨mb,j,none⟩:=fun j=>hf.cell (p:=⟨mb,j,none⟩) h1.mw hm
 have hF:Fr (fun k=>k=mb) w2 (w2.setCell ⟨mb,4,none⟩ (.slice q'.a q'.n q'.c)):=(Fr.refl (fun k=>k=mb) w2).setCell (p:=⟨mb,4,none⟩) (.inl rfl) _;have NA:∀i,i≠4->(w2.setCell ⟨mb,4,none⟩ (.slice q'.a q'.n q'.c)).cell? ⟨mb,i,none⟩=w1.cell? ⟨mb,i,none⟩:=fun i hi=>(World.cell?_setCell_other w2 ⟨mb,4,none⟩ ⟨mb,i,none⟩ _ (by simp only[ne_eq,Addr.mk.injEq,true_and,and_true];exact fun e=>hi e.symm)).trans (hc i)
 have hz:∀j,(w2.setCell ⟨mb,4,none⟩ (.slice q'.a q'.n q'.c)).frozen? ⟨mb,j,none⟩=false:=fun j=>by rw[World.frozen?_setCell];exact(hf.frozen (p:=⟨mb,j,none⟩) h1.mw hm).trans (h1.z j)
 have hA:Fr (fun k=>qf.ob=some k\/k=mb) w1 (w2.setCell ⟨mb,4,none⟩ (.slice q'.a q'.n q'.c)):=(hf.mono (fun k _ e=> .inl e)).trans (hF.mono (fun k _ e=> .inr e));have hN:∀(q:ai),Dj qf q->(∀b,q.ob=some b->b≠mb)->∀b,q.ob=some b->¬(qf.ob=some b\/b=mb):=fun q hd hq b e e2=>by
  rcases e2 with e2|e2
  ·exact hd b e2 e
  ·exact hq b e e2
 have hap:∀(y:ai),Dj qf y->(∀b,y.ob=some b->b<w1.heap.size)->Dj q' y:=fun y hy hl b e1 e2=>by
  rcases hb b e1 with e3|e3
  ·exact hy b e3 e2
  ·have:=hl b e2;omega
 have hbq:∀b,q'.ob=some b->¬b=mb:=fun b e e2=>by
  rcases hb b e with e3|e3
  ·exact h.nm b (.inl e3) e2
  ·omega
 have hold:∀(y:ai),(∀b,y.ob=some b->Ob qf qh rp r b)->Dj qv y:=fun y hy b e1 e2=>(Bw b e1).1 (hy b e2)
 have hrow:∀q∈rp,(∀b,q.v.ob=some b->base<=b/\b<w.heap.size)/\∀b,q.s.ob=some b->base<=b/\b<w.heap.size:=fun q hq=>
  ⟨fun b e=>h.ob (.inr (.inr (.inr (.inr ⟨q,hq,.inl e⟩)))),fun b e=>h.ob (.inr (.inr (.inr (.inr ⟨q,hq,.inr e⟩))))⟩
 have hlr:∀b,r.v.ob=some b->base<=b/\b<w.heap.size:=fun b e=>h.et.v.lt e
 have hls:∀b,r.s.ob=some b->base<=b/\b<w.heap.size:=fun b e=>h.et.s.lt e
 have hlh:∀b,qh.ob=some b->base<=b/\b<w.heap.size:=fun b e=>h.hp.lt e
 have vo:Dj qf qv:=(hold qf (fun b e=> .inl e)).symm;refine⟨⟨(NA 0 (by decide)).trans h1.c0,(NA 1 (by decide)).trans h1.c1,(NA 2 (by decide)).trans h1.c2,(NA 3 (by decide)).trans h1.c3,World.cell?_setCell_same _ _ _ ((hc 4).trans h1.c4),(NA 5 (by decide)).trans h1.c5,(NA 6 (by decide)).trans h1.c6,(NA 7 (by decide)).trans h1.c7,(NA 8 (by decide)).trans h1.c8,(NA 9 (by decide)).trans h1.c9,(NA 10 (by decide)).trans h1.c10,(NA 11 (by decide)).trans h1.c11,(NA 12 (by decide)).trans h1.c12,
  hz,Nat.lt_of_lt_of_le h1.ml hA.size,Nat.le_trans h1.bl hA.size,ho.fr hF hbq,by show(rp++ [r]).length=(m.pre++ [m.f]).length;simp[h.lp],fun i q g e1 e2=>?_,
  ⟨rfl,rfl,hv.fr hA (hN qv vo (fun b e=>(Bw b e).2)),fF.nil _ _ _ _ _,(Dj.nil qv).symm⟩,h1.hp.fr hA (hN qh h.Bz (fun b e=>h.nm b (.inr (.inl e)))),hap qh h.Bz (fun b e=>by have:=(hlh b e).2;omega),
  ⟨hap qv vo (fun b e=>(hv.lt e).2),(Dj.nil q').symm⟩,⟨(hold qh (fun b e=> .inr (.inl e))).symm,(Dj.nil qh).symm⟩,fun q hq=>?_,fun q hq=>?_,fun q hq=>?_,fun i j q q2 hij e1 e2=>?_,fun k hk=>?_⟩,(hc 4).trans h1.c4,(hf.frozen (p:=⟨mb,4,none⟩) h1.mw hm).trans (h1.z 4),Nat.lt_of_lt_of_le h1.mw hf.size,((hf1.mono (fun _ _ e=>e.elim)).trans hA).mono (fun k _ e=>e.imp (fun e=> .inl e) id)⟩
 ·rcases kG e1 with⟨e1,i1⟩|⟨i1,rfl⟩
  ·have e2':m.pre[i]?=some g:=by
    have e3:(m.pre++ [m.f])[i]?=some g:=e2;rw[List.getElem?_append_left (by rw[<-h.lp];exact i1)] at e3
    exact e3
   have hq:=List.mem_of_getElem? e1;exact(h1.ep i q g e1 e2').fr hA (hN q.v (h.BA q hq).1 (fun b e=>h.nm b (.inr (.inr (.inr (.inr ⟨q,hq,.inl e⟩)))))) (hN q.s (h.BA q hq).2 (fun b e=>h.nm b (.inr (.inr (.inr (.inr ⟨q,hq,.inr e⟩))))))
  ·have e3:(m.pre++ [m.f])[i]?=some g:=e2;rw[i1,h.lp] at e3;have:g=m.f:=by simpa using e3.symm
   rw[this];exact h1.et.fr hA (hN q.v h.Az.1 (fun b e=>h.nm b (.inr (.inr (.inl e))))) (hN q.s h.Az.2 (fun b e=>h.nm b (.inr (.inr (.inr (.inl e))))))
 ·rcases oL hq with hq|rfl
  ·exact⟨hap q.v (h.BA q hq).1 (fun b e=>by have:=((hrow q hq).1 b e).2;omega),hap q.s (h.BA q hq).2 (fun b e=>by have:=((hrow q hq).2 b e).2;omega)⟩
  ·exact⟨hap q.v h.Az.1 (fun b e=>by have:=(hlr b e).2;omega),hap q.s h.Az.2 (fun b e=>by have:=(hls b e).2;omega)⟩
 ·rcases oL hq with hq|rfl
  ·exact h.Ae q hq
  ·exact h.De
 ·rcases oL hq with hq|rfl
  ·exact⟨⟨hold q.v (fun b e=> .inr (.inr (.inr (.inr ⟨q,hq,.inl e⟩)))),hold q.s (fun b e=> .inr (.inr (.inr (.inr ⟨q,hq,.inr e⟩))))⟩,Dj.nil _,Dj.nil _⟩
  ·exact⟨⟨hold q.v (fun b e=> .inr (.inr (.inl e))),hold q.s (fun b e=> .inr (.inr (.inr (.inl e))))⟩,Dj.nil _,Dj.nil _⟩
 ·rcases kG e1 with⟨f1,i1⟩|⟨i1,h1⟩
  ·rcases kG e2 with⟨f2,i2⟩|⟨i2,h2⟩
   ·exact h.AA i j q q2 hij f1 f2
   ·have hq:=h.Hq q (List.mem_of_getElem? f1);rw[h2];exact⟨⟨hq.1.1.symm,hq.2.1.symm⟩,⟨hq.1.2.symm,hq.2.2.symm⟩⟩
  ·rcases kG e2 with⟨f2,i2⟩|⟨i2,h2⟩
   ·rw[h1];exact h.Hq q2 (List.mem_of_getElem? f2)
   ·exact absurd (i1.trans i2.symm) hij
 ·rcases hk with e|e|e|e|⟨q,hq,e⟩
  ·exact hbq k e
  ·exact h.nm k (.inr (.inl e))
  ·exact(Bw k e).2
  ·cases e
  ·rcases oL hq with hq|rfl
   ·exact h.nm k (.inr (.inr (.inr (.inr ⟨q,hq,e⟩))))
   ·rcases e with e|e
    ·exact h.nm k (.inr (.inr (.inl e)))
    ·exact h.nm k (.inr (.inr (.inr (.inl e))))
end
end
section
theorem lZ (x:Val):∀u∈aP x,u.oneCell'=true:=by simp[aP,Value.oneCell']
theorem BG (sc sw:ai) (p:Pz) (fn:Nat) (q:ai) (ys:List Val) (w:World) (hP:iq w sc sw p) {c:Cz} (hc:p.cs[fn]?=some c) (n:Nat) (hn:n<=8) (hnv:c.nv=n) (hs:Sl aP 3 w q.v ys) (hy:ys.length<=n):
 Calls Tryz.prog 29 #[.slice sc.a sc.n sc.c,.int .i64 fn,.slice q.a q.n q.c] w fun e w'=>∃qv:ai,e=.returned (.agg #[.int .i64 fn,.int .i64 0,.slice qv.a qv.n qv.c,.slice none 0 0])/\Fr nothing w w'/\Own aP 53 3 w.heap.size qv (ys++List.replicate (n-ys.length) v0) w':=by
 obtain⟨⟨rs,hrs,kM⟩,-⟩:=hP;obtain⟨n1,m1⟩:=ay hrs;rw[kM.1] at n1 m1;obtain⟨Es,scn,scc⟩:=sc;simp only at n1;subst n1;have hl:=(List.getElem?_eq_some_iff.1 hc).1;obtain⟨r,hr⟩:∃r,rs[fn]?=some r:=⟨_,List.getElem?_eq_getElem (by rw[kM.1];exact hl)⟩
 have hok:=kM.2 fn r c hr hc;obtain⟨g,o,e1,dg,u0,u1,u2⟩:=fB (s:=⟨Es,p.cs.length,scc⟩) hrs hr;simp only at e1;subst e1;rw[hok.nv,hnv] at u1;obtain⟨j0,hj0,hy0,hy1,hy2⟩:=info_parts Ep;have FA:Fr nothing w (w.alloc (.cells #[.int .i64 0,.int .i64 0,.slice none 0 0,.slice none 0 0] 51)):=(Fr.refl _ _).alloc _;have mA:=af (Fr.refl nothing (w.alloc (.cells #[.int .i64 0,.int .i64 0,.slice none 0 0,.slice none 0 0] 51))) id;have zA:(w.alloc (.cells #[.int .i64 0,.int .i64 0,.slice none 0 0,.slice none 0 0] 51)).heap.size=w.heap.size+1:=by simp
 obtain⟨w1,hw1⟩:∃x,w.alloc (.cells #[.int .i64 0,.int .i64 0,.slice none 0 0,.slice none 0 0] 51)=x:=⟨_,rfl⟩
 rw[hw1] at FA mA zA;have t1:=(FA.cell (p:=⟨g,_,none⟩) dg id).trans u1;have tl:=Nat.lt_of_lt_of_le dg FA.size;have hmk:=run_make (P:=Tryz.prog) w1 49 53 j0 _ Tryz.underlying49 hj0 hy0 .i64 .i64 (n:Int) (n:Int) (by omega) (by omega) (by rw[hy2];omega) (by omega)
 have FB:Fr nothing w1 (w1.alloc (.cells (madeCells #[.int .i64 0,.int .i64 0,.string ⟨#[]⟩] (n*3)) 53)):=(Fr.refl _ _).alloc _;have hov:Own aP 53 3 w.heap.size ⟨some ⟨w1.heap.size,0,none⟩,n,n⟩ (List.replicate n v0) (w1.alloc (.cells (madeCells #[.int .i64 0,.int .i64 0,.string ⟨#[]⟩] (n*3)) 53)):=by
  have:=Own.lit (enc:=aP) (T:=53) (base:=w.heap.size) w1 (madeCells #[.int .i64 0,.int .i64 0,.string ⟨#[]⟩] (n*3)) (List.replicate n v0) (Bt n hn) aK (by omega) (by rw[List.length_replicate];unfold maxLen;omega);rw[List.length_replicate] at this;exact this
 have hs2:Sl aP 3 (w1.alloc (.cells (madeCells #[.int .i64 0,.int .i64 0,.string ⟨#[]⟩] (n*3)) 53)) q.v ys:=(hs.fr FA (fun _ _=>id)).fr FB (fun _ _=>id);obtain⟨w3,hcp,hown,tO⟩:=Own.copy Tryz.underlying49 Ep (by decide) aK lZ hov hs2 3;rw[List.length_replicate,List.take_of_length_le hy,List.drop_replicate,zA] at hown;simp only[List.length_replicate,zA] at hcp;have hb:∀j,w3.cell? ⟨w.heap.size,j,none⟩=_:=fun j=>(tO.cell (p:=⟨w.heap.size,j,none⟩) (Nat.lt_of_lt_of_le mA.2.2 FB.size) (fun e=>by have e2:w1.heap.size=w.heap.size:=Option.some.inj e;omega)).trans ((FB.cell (p:=⟨w.heap.size,j,none⟩) mA.2.2 id).trans (mA.1 j))
 have hbz:∀j,w3.frozen? ⟨w.heap.size,j,none⟩=false:=fun j=>(tO.frozen (p:=⟨w.heap.size,j,none⟩) (Nat.lt_of_lt_of_le mA.2.2 FB.size) (fun e=>by have e2:w1.heap.size=w.heap.size:=Option.some.inj e;omega)).trans ((FB.frozen (p:=⟨w.heap.size,j,none⟩) mA.2.2 id).trans (mA.2.1 j))
 have b0:=hb 0;have b1:=hb 1;have b2:=hb 2;have b3:=hb 3;have z0:=hbz 0;have z1:=hbz 1;have z2:=hbz 2;have z3:=hbz 3;have bl:w.heap.size<w3.heap.size:=Nat.lt_of_lt_of_le (Nat.lt_of_lt_of_le mA.2.2 FB.size) tO.size;have HF:Hid (Fr nothing w w3):=(FA.trans FB).then tO (fun k hk e=>by
  have e2:w1.heap.size=k:=Option.some.inj e;omega)
 have HOWN:=hide hown;have hi2:¬((fn:Int)<0):=by omega
 have hi3:(fn:Int)<p.cs.length:=by omega
 clear hb hbz tO hov hs2 FA FB mA hok hr hrs kM hown u0 u1 u2 dg hs hc
 go_enter Tryz.func29,Tryz.ntmps29
 go_wp2
 have jW:Fr (fun k=>k=w.heap.size) w3 ((((w3.setCell ⟨w.heap.size,0,none⟩ (.int .i64 fn)).setCell ⟨w.heap.size,1,none⟩ (.int .i64 0)).setCell ⟨w.heap.size,2,none⟩ (.slice (some ⟨w.heap.size+1,0,none⟩) n n)).setCell ⟨w.heap.size,3,none⟩ (.slice none 0 0)):=
  ((((Fr.refl (fun k=>k=w.heap.size) w3).setCell (p:=⟨w.heap.size,0,none⟩) (.inl rfl) _).setCell (p:=⟨w.heap.size,1,none⟩) (.inl rfl) _).setCell (p:=⟨w.heap.size,2,none⟩) (.inl rfl) _).setCell (p:=⟨w.heap.size,3,none⟩) (.inl rfl) _
 refine bodyPost_ret (v:=.agg #[.int .i64 fn,.int .i64 0,.slice (some ⟨w.heap.size+1,0,none⟩) n n,.slice none 0 0]) (by simp[results,Tryz.results29,go_sem,b0,b1,b2,b3]) rfl ⟨⟨some ⟨w.heap.size+1,0,none⟩,n,n⟩,rfl,HF.out.then jW (fun k hk e=>by omega),HOWN.out.fr jW (fun k hk e=>?_)⟩
 have e2:w.heap.size+1=k:=Option.some.inj hk;have e3:k=w.heap.size:=e;omega
end
end Go.Proofs.YtbcadjgpcfmkfaaGreatDoor
