/- MOwn; MRun0. -/
import Derived.Test.YtbcadjgpcfmkfaaGreatDoorPartU19
import Derived.Test.YtbcadjgpcfmkfaaGreatDoorPartU1
set_option maxHeartbeats 0
set_option maxRecDepth 100000
set_option linter.unusedSimpArgs false
namespace Go.Proofs.YtbcadjgpcfmkfaaGreatDoor
open Go Go.RowKit
section
structure Bx (ab:Nat) (a:Ag) (q2 q3 q4 q5:ai) (w:World):Prop where
 c0:w.cell? ⟨ab,0,none⟩=some (.int .i64 a.id)
 c1:w.cell? ⟨ab,1,none⟩=some (.int .i64 a.bu)
 c2:w.cell? ⟨ab,2,none⟩=some (.slice q2.a q2.n q2.c)
 c3:w.cell? ⟨ab,3,none⟩=some (.slice q3.a q3.n q3.c)
 c4:w.cell? ⟨ab,4,none⟩=some (.slice q4.a q4.n q4.c)
 c5:w.cell? ⟨ab,5,none⟩=some (.slice q5.a q5.n q5.c)
 c6:w.cell? ⟨ab,6,none⟩=some (.int .i64 a.fuel)
 c7:w.cell? ⟨ab,7,none⟩=some (.int .i64 a.cells)
 c8:w.cell? ⟨ab,8,none⟩=some (.int .i64 a.hops)
 z:∀j,w.frozen? ⟨ab,j,none⟩=false
 ml:ab<w.heap.size
section
variable {ab : Nat} {a : Ag} {q2 q3 q4 q5 : ai} {w w' : World}
theorem Bx.fr {S:Nat->Prop} (h:Bx ab a q2 q3 q4 q5 w) (hf:Fr S w w') (hm:¬S ab):Bx ab a q2 q3 q4 q5 w':=by
 have hc:∀j,w'.cell? ⟨ab,j,none⟩=w.cell? ⟨ab,j,none⟩:=fun j=>hf.cell (p:=⟨ab,j,none⟩) h.ml hm
 exact⟨(hc 0).trans h.c0,(hc 1).trans h.c1,(hc 2).trans h.c2,(hc 3).trans h.c3,(hc 4).trans h.c4,(hc 5).trans h.c5,(hc 6).trans h.c6,(hc 7).trans h.c7,(hc 8).trans h.c8,fun j=>(hf.frozen (p:=⟨ab,j,none⟩) h.ml hm).trans (h.z j),Nat.lt_of_lt_of_le h.ml hf.size⟩
theorem Bx.qC (w:World) (ab j i:Nat) (u:Value) (hi:i≠j):(w.setCell ⟨ab,j,none⟩ u).cell? ⟨ab,i,none⟩=w.cell? ⟨ab,i,none⟩:=World.cell?_setCell_other w ⟨ab,j,none⟩ ⟨ab,i,none⟩ _ (by simp only[ne_eq,Addr.mk.injEq,true_and,and_true];exact fun e=>hi e.symm)
theorem Bx.sz (h:ab<w.heap.size) (j:Nat) (u:Value):ab<(w.setCell ⟨ab,j,none⟩ u).heap.size:=by simp;exact h
theorem Bx.s2 (h:Bx ab a q2 q3 q4 q5 w) (q:ai):Bx ab a q q3 q4 q5 (w.setCell ⟨ab,2,none⟩ (.slice q.a q.n q.c)):=
 ⟨(Bx.qC w ab 2 0 _ (by decide)).trans h.c0,(Bx.qC w ab 2 1 _ (by decide)).trans h.c1,World.cell?_setCell_same _ _ _ h.c2,(Bx.qC w ab 2 3 _ (by decide)).trans h.c3,(Bx.qC w ab 2 4 _ (by decide)).trans h.c4,(Bx.qC w ab 2 5 _ (by decide)).trans h.c5,(Bx.qC w ab 2 6 _ (by decide)).trans h.c6,(Bx.qC w ab 2 7 _ (by decide)).trans h.c7,(Bx.qC w ab 2 8 _ (by decide)).trans h.c8,fun j=>by rw[World.frozen?_setCell];exact h.z j,Bx.sz h.ml _ _⟩
theorem Bx.s3 (h:Bx ab a q2 q3 q4 q5 w) (q:ai):Bx ab a q2 q q4 q5 (w.setCell ⟨ab,3,none⟩ (.slice q.a q.n q.c)):=
 ⟨(Bx.qC w ab 3 0 _ (by decide)).trans h.c0,(Bx.qC w ab 3 1 _ (by decide)).trans h.c1,(Bx.qC w ab 3 2 _ (by decide)).trans h.c2,World.cell?_setCell_same _ _ _ h.c3,(Bx.qC w ab 3 4 _ (by decide)).trans h.c4,(Bx.qC w ab 3 5 _ (by decide)).trans h.c5,(Bx.qC w ab 3 6 _ (by decide)).trans h.c6,(Bx.qC w ab 3 7 _ (by decide)).trans h.c7,(Bx.qC w ab 3 8 _ (by decide)).trans h.c8,fun j=>by rw[World.frozen?_setCell];exact h.z j,Bx.sz h.ml _ _⟩
theorem Bx.s4 (h:Bx ab a q2 q3 q4 q5 w) (q:ai):Bx ab a q2 q3 q q5 (w.setCell ⟨ab,4,none⟩ (.slice q.a q.n q.c)):=
 ⟨(Bx.qC w ab 4 0 _ (by decide)).trans h.c0,(Bx.qC w ab 4 1 _ (by decide)).trans h.c1,(Bx.qC w ab 4 2 _ (by decide)).trans h.c2,(Bx.qC w ab 4 3 _ (by decide)).trans h.c3,World.cell?_setCell_same _ _ _ h.c4,(Bx.qC w ab 4 5 _ (by decide)).trans h.c5,(Bx.qC w ab 4 6 _ (by decide)).trans h.c6,(Bx.qC w ab 4 7 _ (by decide)).trans h.c7,(Bx.qC w ab 4 8 _ (by decide)).trans h.c8,fun j=>by rw[World.frozen?_setCell];exact h.z j,Bx.sz h.ml _ _⟩
theorem Bx.s5 (h:Bx ab a q2 q3 q4 q5 w) (q:ai):Bx ab a q2 q3 q4 q (w.setCell ⟨ab,5,none⟩ (.slice q.a q.n q.c)):=
 ⟨(Bx.qC w ab 5 0 _ (by decide)).trans h.c0,(Bx.qC w ab 5 1 _ (by decide)).trans h.c1,(Bx.qC w ab 5 2 _ (by decide)).trans h.c2,(Bx.qC w ab 5 3 _ (by decide)).trans h.c3,(Bx.qC w ab 5 4 _ (by decide)).trans h.c4,World.cell?_setCell_same _ _ _ h.c5,(Bx.qC w ab 5 6 _ (by decide)).trans h.c6,(Bx.qC w ab 5 7 _ (by decide)).trans h.c7,(Bx.qC w ab 5 8 _ (by decide)).trans h.c8,fun j=>by rw[World.frozen?_setCell];exact h.z j,Bx.sz h.ml _ _⟩
end
theorem fF.low {α:Type} {enc:α->List Value} {T sz b b':Nat} {q:ai} {l:List α} {w:World} (h:fF enc T sz b q l w) (hb:b'<=b):fF enc T sz b' q l w:=by
 refine⟨h.n,?_⟩
 rcases h.row with h1|h1
 ·exact .inl ⟨h1.1,((⟨h.n,h1.2⟩:Own enc T sz b q l w).low hb).row⟩
 ·exact .inr h1
structure AgB (a:Ag):Prop where
 cs:a.pg.cs.length<=1000
 ins:∀c∈a.pg.cs,c.ins.length<=1000
 ws:a.pg.ws.length<=1000
 fr:a.fr.length<=1000
 vs:∀f∈a.fr,f.vars.length<=100000/\f.stack.length<=100000
 hp:a.hp.length<=1000
abbrev oM:Array Value:=#[.int .i64 0,.int .i64 0,.slice none 0 0,.slice none 0 0,.slice none 0 0,.slice none 0 0,.int .i64 0,.int .i64 0,.int .i64 0]
theorem sI (a:Ag) (sc sw sf sh:ai) (w:World) (hA:iK w sc sw sf sh a) (hB:AgB a):
 Calls Tryz.prog 14 #[.agg (gH a sc sw sf sh)] w fun e w'=>∃(aY bG qf qh:ai) (rs:List aQ) (B:Nat),e=.returned (.agg (gH a aY bG qf qh))/\Fr nothing w w'/\w.heap.size<=B/\Mo B qf qh rs a.fr a.hp w'/\(∀w'',Fr (fun k=>k<w.heap.size\/B<=k) w' w''->iq w'' aY bG a.pg):=by
 have F1:Fr nothing w (w.alloc (.cells (gH a sc sw sf sh) 31)):=(Fr.refl _ _).alloc _;obtain⟨w1,hw1⟩:∃y,y=w.alloc (.cells (gH a sc sw sf sh) 31):=⟨_,rfl⟩
 have F2:Fr nothing w1 (w1.alloc (.cells oM 31)):=(Fr.refl _ _).alloc _;obtain⟨w2,hw2⟩:∃y,y=w1.alloc (.cells oM 31):=⟨_,rfl⟩
 rw[<-hw1] at F1;rw[<-hw2] at F2;have z1:w1.heap.size=w.heap.size+1:=by rw[hw1];simp
 have z2:w2.heap.size=w.heap.size+2:=by rw[hw2];simp[z1]
 have ma:=af (w:=w) (cs:=gH a sc sw sf sh) (t:=31) (w1:=w2) (S:=nothing) (by rw[<-hw1];exact F2) id;have mr:=af (w:=w1) (cs:=oM) (t:=31) (w1:=w2) (S:=nothing) (by rw[<-hw2];exact Fr.refl _ _) id
 rw[z1] at mr;have bq:Hid (Fr nothing w w2):=F1.trans F2;have HB2:Hid (Bx w.heap.size a sc sw sf sh w2):=⟨ma.1 0,ma.1 1,ma.1 2,ma.1 3,ma.1 4,ma.1 5,ma.1 6,ma.1 7,ma.1 8,ma.2.1,ma.2.2⟩;have HRR:Hid (∀w',Fr (fun k=>k≠w.heap.size+1) w2 w'->(∀j,j<9->w'.cell? ⟨w.heap.size+1,j,none⟩=oM[j]?)/\(∀j,w'.frozen? ⟨w.heap.size+1,j,none⟩=false)/\w.heap.size+1<w'.heap.size):=fun w' hf=>⟨fun j _=>(hf.cell (p:=⟨w.heap.size+1,j,none⟩) mr.2.2 (fun e=>e rfl)).trans (mr.1 j),fun j=>(hf.frozen (p:=⟨w.heap.size+1,j,none⟩) mr.2.2 (fun e=>e rfl)).trans (mr.2.1 j),Nat.lt_of_lt_of_le mr.2.2 hf.size⟩
 obtain⟨Sj,aac,Xr⟩:=hA.pg.cs;obtain⟨VL,aad,aae⟩:=hA.fr;have HC0:=hide (And.intro aac Xr);have Y4:=hide (And.intro aad aae);have HW0:=hide hA.pg.ws;have HH0:=hide hA.hp;have xY:=hide hB;have hlc:Sj.length<=1000000:=by rw[Xr.1];have:=hB.cs;omega
 have pQ:=hw1.symm;have e2':=hw2.symm;have c2:=HB2.out.c2;have cl:=HB2.out.ml;clear hA hB aac Xr aad aae ma mr F1 F2 hw1 hw2
 go_enter Tryz.func14,Tryz.ntmps14
 go_wp2_with (go_at_call 30;refine(Ib sc Sj _ (HC0.out.1.fr bq.out (fun _ _=>id)) hlc).mono ?_;rintro e w3 ⟨qc,rfl,hf3,ho3⟩;have HB3:=hide (HB2.out.fr hf3 id);have dX:=hide hf3;have VM:=hide ho3;have b2:=HB3.out.c2;have bz:=HB3.out.z 2;have bl:=HB3.out.ml;clear hf3 ho3)
 have nL:qc.n=a.pg.cs.length:=by rw[VM.out.n,HC0.out.2.1]
 have l9:Io (w.heap.size+2) qc Sj 0 a.pg.cs w3:=⟨by have:=VM.out;rw[z2] at this;exact this,HC0.out.2.1,fun i r c hi=>absurd hi (by omega)⟩;have jW:Fr (fun j=>j=w.heap.size) w3 (w3.setCell ⟨w.heap.size,2,none⟩ (.slice qc.a qc.n qc.c)):=(Fr.refl (fun j=>j=w.heap.size) w3).setCell (p:=⟨w.heap.size,2,none⟩) (.inl rfl) _;have HL1:Hid (∃rcs,Io (w.heap.size+2) qc rcs 0 a.pg.cs (w3.setCell ⟨w.heap.size,2,none⟩ (.slice qc.a qc.n qc.c))/\(∀i,0<=i->rcs[i]?=Sj[i]?)/\Bx w.heap.size a qc sw sf sh (w3.setCell ⟨w.heap.size,2,none⟩ (.slice qc.a qc.n qc.c))/\Fr (fun j=>j=w.heap.size) w2 (w3.setCell ⟨w.heap.size,2,none⟩ (.slice qc.a qc.n qc.c))):=⟨Sj,l9.fr jW (fun b h1 h2 e=>by have e':b=w.heap.size:=e;omega),fun _ _=>rfl,HB3.out.s2 qc,(dX.out.mono (fun _ _ e=>e.elim)).trans jW⟩
 clear l9 jW b2 bz bl c2 cl HB3 dX VM;generalize w3.setCell ⟨w.heap.size,2,none⟩ (.slice qc.a qc.n qc.c)=w4 at*;have HCB:Hid (∀c∈a.pg.cs,c.ins.length<=1000):=xY.out.ins
 have hcl:a.pg.cs.length<=1000:=xY.out.cs;obtain⟨Sk,qcn,ME⟩:=qc;simp only at nL;subst nL
 go_loopw [17,3,4] (fun i _ _ wr=>∃k:Nat,k<=a.pg.cs.length/\i=.int .i64 k/\Hid (∃rcs,Io (w.heap.size+2) ⟨Sk,a.pg.cs.length,ME⟩ rcs k a.pg.cs wr/\(∀i,k<=i->rcs[i]?=Sj[i]?)/\Bx w.heap.size a ⟨Sk,a.pg.cs.length,ME⟩ sw sf sh wr/\Fr (fun j=>j=w.heap.size) w2 wr)) (fun i _ _ _=>a.pg.cs.length-(intOf i).toNat)
 case atStart=>exact⟨0,Nat.zero_le _,rfl,HL1⟩
 case round=>
  obtain⟨k,hk,rfl,hRk⟩:=hrel;clear HL1
  by_cases hlt:k<a.pg.cs.length
  ·obtain⟨rcs,Xt,hrest,hBx,iT⟩:=hRk.out;have hck:a.pg.cs[k]?=some a.pg.cs[k]:=List.getElem?_eq_getElem hlt;have hcm:a.pg.cs[k]∈a.pg.cs:=List.getElem_mem hlt;generalize a.pg.cs[k]=c at hck hcm;obtain⟨rr,Dm⟩:∃y,Sj[k]?=some y:=⟨_,List.getElem?_eq_getElem (by rw[HC0.out.2.1];exact hlt)⟩
   have hrr:rcs[k]?=some rr:=(hrest k (Nat.le_refl k)).trans Dm;have hok:=HC0.out.2.2 k rr c Dm hck;have qy:Fr nothing w wr:=bq.out.then iT (fun j hj e=>by have e':j=w.heap.size:=e;omega)
   obtain⟨cg,co,ec,Gj,u0,u1,u2⟩:=fB (s:=⟨Sk,a.pg.cs.length,ME⟩) (Xt.row.sl pU) hrr;obtain⟨g,ga,gb,gl,gc,gz,Mx,-,-⟩:=Xt.set hrr aN;simp only at ec ga;obtain⟨rfl,rfl⟩:cg=g/\co=0:=by have:=ec.symm.trans ga;simpa using this
   subst ec;have ci:=hBx.c2;have cil:=hBx.ml;have hil:c.ins.length<=1000000:=by have:=HCB.out c hcm;omega
   simp only[Nat.zero_add] at u0 u1 u2;have HPw:=hide Xt;have Sm:=hide hBx;have sJ:=hide iT;have Mf:=hide qy;have uf:=hide hok;have NB:=hide (And.intro hrest (And.intro hck (And.intro Dm hrr)));have hgw:=gl;clear Xt hrest hBx iT qy hok hck Dm hrr hRk gb
   go_wp2_with fail
   have FB:Fr nothing wr (wr.alloc (.cells #[.int .i64 rr.np,.int .i64 rr.nv,.slice rr.s.a rr.s.n rr.s.c] 79)):=(Fr.refl _ _).alloc _;have mB:=af (Fr.refl nothing (wr.alloc (.cells #[.int .i64 rr.np,.int .i64 rr.nv,.slice rr.s.a rr.s.n rr.s.c] 79))) id;generalize wr.alloc (.cells #[.int .i64 rr.np,.int .i64 rr.nv,.slice rr.s.a rr.s.n rr.s.c] 79)=wB at*;have DV:=hide FB;have oK:=hide mB;have iL:Hid (∀w',Fr nothing wB w'->w'.cell? ⟨w.heap.size,2,none⟩=some (.slice (some ⟨cg,0,none⟩) a.pg.cs.length ME)/\w'.cell? ⟨wr.heap.size,2,none⟩=some (.slice rr.s.a rr.s.n rr.s.c)):=fun w' hf=>⟨(Sm.out.fr (DV.out.trans hf) id).c2,(hf.cell (p:=⟨wr.heap.size,2,none⟩) oK.out.2.2 id).trans (oK.out.1 2)⟩
   clear FB mB ci u0 u1 u2 Gj gc gz;refine hd iL (fun hHeld=>?_)
   refine tk 0 ?_
   refine tk 1 ?_
   refine tk 2 ?_
   refine tk 3 ?_
   refine tk 4 ?_
   refine tk 5 ?_
   refine iP 6 (fun K hK=>?_)
   refine aF rfl 31 Tryz.f31 #[.tmp 27] #[77] rfl Tryz.func31 (by kernel_rfl) (by kernel_rfl) #[.slice rr.s.a rr.s.n rr.s.c] (by simp[Act.eval]) _ (Ic rr.s c.ins _ (uf.out.s.fr ((Mf.out.trans DV.out).trans (Fr.refl nothing wB).drew) (fun _ _=>id)) hil) ?_
   rintro e w5 ⟨q',rfl,cK,uD⟩;refine⟨_,rfl,?_⟩
   have iO:Fr nothing wB w5:=(Fr.refl nothing wB).drew.trans cK;have aaf:=HPw.out.fr (DV.out.trans iO) (fun _ _ _=>id);obtain⟨g2,VN,gb2,gl2,Y5,gz2,Xu,aag,aR⟩:=aaf.set NB.out.2.2.2 q';obtain rfl:cg=g2:=by simpa using VN
   have hBx5:=Sm.out.fr (DV.out.trans iO) id;have Pj:¬w.heap.size=cg:=fun e=>by omega
   have hBx6:=hBx5.fr aR Pj;have Pk:∀b,q'.ob=some b->wB.heap.size<=b:=fun b e=>(uD.lt e).1
   have hcgB:cg<wB.heap.size:=Nat.lt_of_lt_of_le hgw DV.out.size;have VO:fF encI 82 3 (w.heap.size+2) q' c.ins (w5.setCell ⟨cg,k*3+2,none⟩ (.slice q'.a q'.n q'.c)):=(uD.fr aR (fun b e e2=>by have h1:=Pk b e;have e':b=cg:=e2;omega)).low (by have:=DV.out.size;have:=sJ.out.size;show w.heap.size+2<=wB.heap.size;omega)
   have hset:(rcs.set k {rr with s:=q'})[k]?=some {rr with s:=q'}:=List.getElem?_set_self (List.getElem?_eq_some_iff.1 NB.out.2.2.2).1;have aah:=aag.close hset NB.out.2.1 uf.out.np uf.out.nv VO (fun b e1 e2=>by have h1:=Pk b e2;have h2:=Xu.symm.trans e1;simp at h2;omega)
   have aai:Fr (fun j=>j=w.heap.size) w2 (w5.setCell ⟨cg,k*3+2,none⟩ (.slice q'.a q'.n q'.c)):=(sJ.out.trans ((DV.out.trans iO).mono (fun _ _ e=>e.elim))).then aR (fun j hj e=>by have e':j=cg:=e;omega);have xZ:Hid (∃rcs,Io (w.heap.size+2) ⟨some ⟨cg,0,none⟩,a.pg.cs.length,ME⟩ rcs (k+1) a.pg.cs (w5.setCell ⟨cg,k*3+2,none⟩ (.slice q'.a q'.n q'.c))/\(∀i,k+1<=i->rcs[i]?=Sj[i]?)/\Bx w.heap.size a ⟨some ⟨cg,0,none⟩,a.pg.cs.length,ME⟩ sw sf sh (w5.setCell ⟨cg,k*3+2,none⟩ (.slice q'.a q'.n q'.c))/\Fr (fun j=>j=w.heap.size) w2 (w5.setCell ⟨cg,k*3+2,none⟩ (.slice q'.a q'.n q'.c))):=⟨_,aah,fun i hi=>by rw[List.getElem?_set_ne (by omega)];exact NB.out.1 i (by omega),hBx6,aai⟩
   have hS5:=iL.out _ iO;have aaj:=(aR.cell (p:=⟨wr.heap.size,2,none⟩) (Nat.lt_of_lt_of_le oK.out.2.2 iO.size) (fun e=>by have e':wr.heap.size=cg:=e;omega)).trans hS5.2
   have K6:=And.intro hBx6.c2 aaj;refine hK _ _ hS5 (fun _=>?_)
   clear hK K hHeld
   try simp only[Act.put,sA,sZ,sS]
   have hHeld:=hS5;clear aaf aag aah hBx5 hBx6 uD VO cK iO aR aai hset Pk VN aaj;refine tk 7 ?_
   refine tk 8 ?_
   refine iP 9 (fun K hK=>?_)
   go_simp;refine hK _ _ K6 (fun _=>?_)
   clear hK K hHeld
   try simp only[Act.put,sA,sZ,sS]
   refine wpAnyH_done (by kernel_rfl) ?_ _
   generalize w5.setCell ⟨cg,k*3+2,none⟩ (.slice q'.a q'.n q'.c)=w6 at*
   go_wp2_with fail
   go_roundw
   case rel=>exact⟨k+1,by omega,by go_num,xZ⟩
   case measure=>simp[intOf];omega
  ·obtain rfl:k=a.pg.cs.length:=by omega
   obtain⟨rcs,Xt,-,hBx,iT⟩:=hRk.out;have hwl:a.pg.ws.length<=1000000:=by have:=xY.out.ws;omega
   have ab3:VL.length<=1000000:=by rw[Y4.out.2.1];have:=xY.out.fr;omega
   have HPw:=hide Xt;have Sm:=hide hBx;have sJ:=hide iT;have Mf:Hid (Fr nothing w wr):=bq.out.then iT (fun j hj e=>by have e':j=w.heap.size:=e;omega)
   have b3':=hBx.c3;have bl':=hBx.ml;clear Xt hBx iT hRk
   go_upto_region 8 with(go_at_call 32;refine(Ie sw a.pg.ws _ (HW0.out.fr Mf.out (fun _ _=>id)) hwl).mono ?_;rintro e w7 ⟨qw,rfl,dZ,ho7⟩;have EL:=hide (Sm.out.fr dZ id);have dH:=hide dZ;have EI:=hide ho7;have b3:=EL.out.c3;have bz3:=EL.out.z 3;have bl7:=EL.out.ml;clear dZ ho7)
   have AJ:Fr (fun j=>j=w.heap.size) w7 (w7.setCell ⟨w.heap.size,3,none⟩ (.slice qw.a qw.n qw.c)):=(Fr.refl (fun j=>j=w.heap.size) w7).setCell (p:=⟨w.heap.size,3,none⟩) (.inl rfl) _;have Xv:(w7.setCell ⟨w.heap.size,3,none⟩ (.slice qw.a qw.n qw.c)).heap.size=w7.heap.size:=by simp
   have HB8:=hide (EL.out.s3 qw);have aak:Hid (Fr (fun j=>j=w.heap.size) w2 (w7.setCell ⟨w.heap.size,3,none⟩ (.slice qw.a qw.n qw.c))):=(sJ.out.trans (dH.out.mono (fun _ _ e=>e.elim))).trans AJ;have vC:Hid (∀w',Fr (fun j=>j<w.heap.size+2\/w7.heap.size<=j) (w7.setCell ⟨w.heap.size,3,none⟩ (.slice qw.a qw.n qw.c)) w'->iq w' ⟨Sk,a.pg.cs.length,ME⟩ qw a.pg):=fun w' hf=>by
    have hf2:Fr (fun j=>j<w.heap.size+2\/w7.heap.size<=j) w7 w':=(AJ.mono (fun k _ e=> .inl (by have e':k=w.heap.size:=e;omega))).trans hf;have hp:=(HPw.out.fr dH.out (fun _ _ _=>id)).fr hf2 (fun b h1 h2 e=>by rcases e with e|e<;>omega)
    refine⟨hp.cs (Nat.le_refl _),(EI.out.fr hf2 (fun b e e2=>?_)).sl BI⟩
    have h1:=EI.out.lt e;have h2:=sJ.out.size;rcases e2 with e2|e2<;>omega
   clear AJ b3 bz3 bl7 EL HPw b3' bl' Sm EI;have hs8:w2.heap.size<=w7.heap.size:=Nat.le_trans sJ.out.size dH.out.size;clear sJ dH Mf;generalize w7.setCell ⟨w.heap.size,3,none⟩ (.slice qw.a qw.n qw.c)=w8 at*;rw[<-Xv] at hs8;rw[<-Xv] at vC;clear Xv;have AP:Hid (Fr nothing w w8):=bq.out.then aak.out (fun j hj e=>by have e':j=w.heap.size:=e;omega)
   have b4':=HB8.out.c4;have bl8:=HB8.out.ml
   go_wp2_with (go_at_call 33;refine(Ia sf VL _ (Y4.out.1.fr AP.out (fun _ _=>id)) ab3).mono ?_;rintro e w9 ⟨qf,rfl,iI,ho9⟩;have Pm:=hide (HB8.out.fr iI id);have nM:=hide iI;have TL:=hide ho9;have b4:=Pm.out.c4;have bz4:=Pm.out.z 4;have bl9:=Pm.out.ml;clear iI ho9)
   have nL:qf.n=a.fr.length:=by rw[TL.out.n,Y4.out.2.1]
   have l9:Fw w8.heap.size qf VL 0 a.fr w9:=⟨TL.out,Y4.out.2.1,fun i r c hi=>absurd hi (by omega),fun i j q q' hi=>absurd hi (by omega)⟩;have iY:Fr (fun j=>j=w.heap.size) w9 (w9.setCell ⟨w.heap.size,4,none⟩ (.slice qf.a qf.n qf.c)):=(Fr.refl (fun j=>j=w.heap.size) w9).setCell (p:=⟨w.heap.size,4,none⟩) (.inl rfl) _;have HL2:Hid (∃rs,Fw w8.heap.size qf rs 0 a.fr (w9.setCell ⟨w.heap.size,4,none⟩ (.slice qf.a qf.n qf.c))/\(∀i,0<=i->rs[i]?=VL[i]?)/\Bx w.heap.size a ⟨Sk,a.pg.cs.length,ME⟩ qw qf sh (w9.setCell ⟨w.heap.size,4,none⟩ (.slice qf.a qf.n qf.c))/\Fr (fun j=>j=w.heap.size) w8 (w9.setCell ⟨w.heap.size,4,none⟩ (.slice qf.a qf.n qf.c))):=⟨VL,l9.fr iY (fun b h1 h2 e=>by have e':b=w.heap.size:=e;omega),fun _ _=>rfl,Pm.out.s4 qf,(nM.out.mono (fun _ _ e=>e.elim)).trans iY⟩
   clear l9 iY b4 b4' bz4 bl9 bl8 Pm nM TL HB8;generalize w9.setCell ⟨w.heap.size,4,none⟩ (.slice qf.a qf.n qf.c)=mW at*;have Y3:Hid (∀f∈a.fr,f.vars.length<=100000/\f.stack.length<=100000):=xY.out.vs
   have ab4:a.fr.length<=1000:=xY.out.fr;obtain⟨Gl,qfn,AQ⟩:=qf;simp only at nL;subst nL
   go_loopw [45,5,6] (fun i _ _ wr=>∃k:Nat,k<=a.fr.length/\i=.int .i64 k/\Hid (∃rs,Fw w8.heap.size ⟨Gl,a.fr.length,AQ⟩ rs k a.fr wr/\(∀i,k<=i->rs[i]?=VL[i]?)/\Bx w.heap.size a ⟨Sk,a.pg.cs.length,ME⟩ qw ⟨Gl,a.fr.length,AQ⟩ sh wr/\Fr (fun j=>j=w.heap.size) w8 wr)) (fun i _ _ _=>a.fr.length-(intOf i).toNat)
   case atStart=>exact⟨0,Nat.zero_le _,rfl,HL2⟩
   case round=>
    obtain⟨k,hk,rfl,hRk⟩:=hrel;clear HL2
    by_cases hlt:k<a.fr.length
    ·obtain⟨rs,qy,hrest,hBx,iT⟩:=hRk.out;have hck:a.fr[k]?=some a.fr[k]:=List.getElem?_eq_getElem hlt;have hcm:a.fr[k]∈a.fr:=List.getElem_mem hlt;generalize a.fr[k]=f at hck hcm;obtain⟨rr,Dm⟩:∃y,VL[k]?=some y:=⟨_,List.getElem?_eq_getElem (by rw[Y4.out.2.1];exact hlt)⟩
     have hrr:rs[k]?=some rr:=(hrest k (Nat.le_refl k)).trans Dm;have hok:=Y4.out.2.2 k rr f Dm hck;have aal:Fr nothing w wr:=AP.out.then iT (fun j hj e=>by have e':j=w.heap.size:=e;omega)
     obtain⟨fg,fo,ec,Gj,y0,y1,y2,y3⟩:=jJ (s:=⟨Gl,a.fr.length,AQ⟩) (qy.row.sl dA) hrr;obtain⟨g,ga,gb,gl,-,gz,Mx,-,-⟩:=qy.set hrr (r':=rr) (j:=2) (u:=.slice rr.v.a rr.v.n rr.v.c) (by decide) rfl;simp only at ec ga;obtain⟨rfl,rfl⟩:fg=g/\fo=0:=by have:=ec.symm.trans ga;simpa using this
     subst ec;have ci:=hBx.c4;have cil:=hBx.ml;have hlv:f.vars.length<=1000000:=by have:=(Y3.out f hcm).1;omega
     have hls:f.stack.length<=1000000:=by have:=(Y3.out f hcm).2;omega
     simp only[Nat.zero_add] at y0 y1 y2 y3;have MF:=hide qy;have Sm:=hide hBx;have sJ:=hide iT;have TR:=hide aal;have uf:=hide hok;have NB:=hide (And.intro hrest (And.intro hck (And.intro Dm hrr)));have hgw:=gl;clear qy hrest hBx iT aal hok hck Dm hrr hRk
     go_wp2_with fail
     have FB:Fr nothing wr (wr.alloc (.cells #[.int .i64 rr.fn,.int .i64 rr.at_,.slice rr.v.a rr.v.n rr.v.c,.slice rr.s.a rr.s.n rr.s.c] 51)):=(Fr.refl _ _).alloc _;have mB:=af (Fr.refl nothing (wr.alloc (.cells #[.int .i64 rr.fn,.int .i64 rr.at_,.slice rr.v.a rr.v.n rr.v.c,.slice rr.s.a rr.s.n rr.s.c] 51))) id;have VP:=hide (Sm.out.fr FB id);have BN:=hide (And.intro mB.1 mB.2.2);have VQ:=hide (MF.out.fr FB (fun _ _ _=>id));have VR:=hide (TR.out.trans FB);have aam:=hide (sJ.out.trans (FB.mono (S':=fun j=>j=w.heap.size) (fun _ _ e=>e.elim)));have aan:fg<(wr.alloc (.cells #[.int .i64 rr.fn,.int .i64 rr.at_,.slice rr.v.a rr.v.n rr.v.c,.slice rr.s.a rr.s.n rr.s.c] 51)).heap.size:=Nat.lt_of_lt_of_le hgw FB.size;have aao:w8.heap.size<=(wr.alloc (.cells #[.int .i64 rr.fn,.int .i64 rr.at_,.slice rr.v.a rr.v.n rr.v.c,.slice rr.s.a rr.s.n rr.s.c] 51)).heap.size:=Nat.le_trans sJ.out.size FB.size;clear FB mB ci y0 y1 y2 y3 Gj gz;generalize wr.alloc (.cells #[.int .i64 rr.fn,.int .i64 rr.at_,.slice rr.v.a rr.v.n rr.v.c,.slice rr.s.a rr.s.n rr.s.c] 51)=wB at*;have Xw:Hid (∀w',Fr nothing wB w'->w'.cell? ⟨w.heap.size,4,none⟩=some (.slice (some ⟨fg,0,none⟩) a.fr.length AQ)/\w'.cell? ⟨wr.heap.size,2,none⟩=some (.slice rr.v.a rr.v.n rr.v.c)):=fun w' hf=>⟨(VP.out.fr hf id).c4,(hf.cell (p:=⟨wr.heap.size,2,none⟩) BN.out.2 id).trans (BN.out.1 2)⟩
     refine hd Xw (fun hHeld=>?_)
     refine tk 0 ?_
     refine tk 1 ?_
     refine tk 2 ?_
     refine tk 3 ?_
     refine tk 4 ?_
     refine iP 5 (fun K hK=>?_)
     refine aF rfl 34 Tryz.f34 #[.tmp 54] #[49] rfl Tryz.func34 (by kernel_rfl) (by kernel_rfl) #[.slice rr.v.a rr.v.n rr.v.c] (by simp[Act.eval]) _ (xV rr.v f.vars _ (uf.out.v.fr (VR.out.trans (Fr.refl nothing wB).drew) (fun _ _=>id)) hlv) ?_
     rintro e w5 ⟨qv,rfl,cK,uD⟩;refine⟨_,rfl,?_⟩
     have iO:Fr nothing wB w5:=(Fr.refl nothing wB).drew.trans cK;have Pn:=VQ.out.fr iO (fun _ _ _=>id);obtain⟨g2,VN,gb2,gl2,Y5,gz2,Xu,Po,aR⟩:=Pn.set (r':={rr with v:=qv}) (j:=2) (u:=.slice qv.a qv.n qv.c) NB.out.2.2.2 (by decide) rfl;obtain rfl:fg=g2:=by simpa using VN
     have Xx:w5.cell? ⟨fg,k*4+2,none⟩=some (.slice rr.v.a rr.v.n rr.v.c):=Y5;have Pj:¬w.heap.size=fg:=fun e=>by have:=AP.out.size;omega
     have hBx6:=(VP.out.fr iO id).fr aR Pj;have Pk:∀b,qv.ob=some b->wB.heap.size<=b:=fun b e=>(uD.lt e).1
     have ab5:fg<wB.heap.size:=aan;have VO:fF aP 53 3 w8.heap.size qv f.vars (w5.setCell ⟨fg,k*4+2,none⟩ (.slice qv.a qv.n qv.c)):=(uD.fr aR (fun b e e2=>by have h1:=Pk b e;have e':b=fg:=e2;omega)).low (by show w8.heap.size<=wB.heap.size;exact aao)
     have Ip:∀j,(w5.setCell ⟨fg,k*4+2,none⟩ (.slice qv.a qv.n qv.c)).cell? ⟨wr.heap.size,j,none⟩=_:=fun j=>(aR.cell (p:=⟨wr.heap.size,j,none⟩) (Nat.lt_of_lt_of_le BN.out.2 iO.size) (fun e=>by have e':wr.heap.size=fg:=e;omega)).trans ((iO.cell (p:=⟨wr.heap.size,j,none⟩) BN.out.2 id).trans (BN.out.1 j))
     have BO:=hide (And.intro Ip (Nat.lt_of_lt_of_le BN.out.2 (Nat.le_trans iO.size aR.size)));have K7:=hide hBx6;have aap:=hide Po;have aaq:=hide VO;have Xy:=hide Pk;have VS:Hid (Fr nothing w (w5.setCell ⟨fg,k*4+2,none⟩ (.slice qv.a qv.n qv.c))):=(VR.out.trans iO).then aR (fun j hj e=>by have e':j=fg:=e;have:=AP.out.size;omega)
     have aar:Hid (Fr (fun j=>j=w.heap.size) w8 (w5.setCell ⟨fg,k*4+2,none⟩ (.slice qv.a qv.n qv.c))):=(aam.out.trans (iO.mono (fun _ _ e=>e.elim))).then aR (fun j hj e=>by have e':j=fg:=e;omega);have Pp:Hid (wB.heap.size<=(w5.setCell ⟨fg,k*4+2,none⟩ (.slice qv.a qv.n qv.c)).heap.size):=Nat.le_trans iO.size aR.size;have HFFw6:Hid (Fr (fun b=>b=fg) wB (w5.setCell ⟨fg,k*4+2,none⟩ (.slice qv.a qv.n qv.c))):=(iO.mono (fun _ _ e=>e.elim)).trans aR;have hS5:=Xw.out _ iO;have K6:=And.intro hBx6.c4 (Ip 2);refine hK _ _ hS5 (fun _=>?_)
     clear hK K hHeld
     try simp only[Act.put,sA,sZ,sS]
     have hHeld:=hS5;clear Pn Po hBx6 uD VO cK iO aR Pk VN Ip Y5;refine tk 6 ?_
     refine tk 7 ?_
     refine iP 8 (fun K hK=>?_)
     go_simp;refine hK _ _ K6 (fun _=>?_)
     clear hK K hHeld
     try simp only[Act.put,sA,sZ,sS]
     refine wpAnyH_done (by kernel_rfl) ?_ _
     clear Xx gz2 hS5 K6 Xw;generalize w5.setCell ⟨fg,k*4+2,none⟩ (.slice qv.a qv.n qv.c)=w6 at*;have aas:fg<w6.heap.size:=by have:=Pp.out;omega
     have aat:w8.heap.size<=w6.heap.size:=by have:=Pp.out;omega
     have VT:(rs.set k {rr with v:=qv})[k]?=some {rr with v:=qv}:=List.getElem?_set_self (List.getElem?_eq_some_iff.1 NB.out.2.2.2).1;have VU:=hide VT;clear VT;have ci6:=K7.out.c4;have cil6:=K7.out.ml
     go_wp2_with fail
     have Xz:Hid (∀w',Fr nothing w6 w'->w'.cell? ⟨w.heap.size,4,none⟩=some (.slice (some ⟨fg,0,none⟩) a.fr.length AQ)/\w'.cell? ⟨wr.heap.size,3,none⟩=some (.slice rr.s.a rr.s.n rr.s.c)):=fun w' hf=>⟨(K7.out.fr hf id).c4,(hf.cell (p:=⟨wr.heap.size,3,none⟩) BO.out.2 id).trans (BO.out.1 3)⟩
     refine hd Xz (fun hHeld=>?_)
     refine tk 0 ?_
     refine tk 1 ?_
     refine tk 2 ?_
     refine tk 3 ?_
     refine tk 4 ?_
     refine iP 5 (fun K hK=>?_)
     refine aF rfl 34 Tryz.f34 #[.tmp 62] #[49] rfl Tryz.func34 (by kernel_rfl) (by kernel_rfl) #[.slice rr.s.a rr.s.n rr.s.c] (by simp[Act.eval]) _ (xV rr.s f.stack _ (uf.out.s.fr (VS.out.trans (Fr.refl nothing w6).drew) (fun _ _=>id)) hls) ?_
     rintro e rG ⟨qs,rfl,cK,uD⟩;refine⟨_,rfl,?_⟩
     have iO:Fr nothing w6 rG:=(Fr.refl nothing w6).drew.trans cK;have Pn:=aap.out.fr iO (fun _ _ _=>id);obtain⟨g2,VN,gb2,gl2,Y5,gz2,Xu,Po,aR⟩:=Pn.set (r':={rr with v:=qv,s:=qs}) (j:=3) (u:=.slice qs.a qs.n qs.c) VU.out (by decide) rfl;obtain rfl:fg=g2:=by simpa using VN
     have Xx:rG.cell? ⟨fg,k*4+3,none⟩=some (.slice rr.s.a rr.s.n rr.s.c):=Y5;have Pj:¬w.heap.size=fg:=fun e=>by have:=AP.out.size;omega
     have hBx6:=(K7.out.fr iO id).fr aR Pj;have Pk:∀b,qs.ob=some b->w6.heap.size<=b:=fun b e=>(uD.lt e).1
     have ab5:fg<w6.heap.size:=aas;have VO:fF aP 53 3 w8.heap.size qs f.stack (rG.setCell ⟨fg,k*4+3,none⟩ (.slice qs.a qs.n qs.c)):=(uD.fr aR (fun b e e2=>by have h1:=Pk b e;have e':b=fg:=e2;omega)).low (by show w8.heap.size<=w6.heap.size;exact aat)
     have Ip:∀j,(rG.setCell ⟨fg,k*4+3,none⟩ (.slice qs.a qs.n qs.c)).cell? ⟨wr.heap.size,j,none⟩=_:=fun j=>(aR.cell (p:=⟨wr.heap.size,j,none⟩) (Nat.lt_of_lt_of_le BO.out.2 iO.size) (fun e=>by have e':wr.heap.size=fg:=e;omega)).trans ((iO.cell (p:=⟨wr.heap.size,j,none⟩) BO.out.2 id).trans (BO.out.1 j))
     have ab6:=hide (And.intro Ip (Nat.lt_of_lt_of_le BO.out.2 (Nat.le_trans iO.size aR.size)));have XB:=hide hBx6;have XC:=hide Po;have ab7:=hide VO;have XD:=hide Pk;have ab8:Hid (Fr nothing w (rG.setCell ⟨fg,k*4+3,none⟩ (.slice qs.a qs.n qs.c))):=(VS.out.trans iO).then aR (fun j hj e=>by have e':j=fg:=e;have:=AP.out.size;omega)
     have XE:Hid (Fr (fun j=>j=w.heap.size) w8 (rG.setCell ⟨fg,k*4+3,none⟩ (.slice qs.a qs.n qs.c))):=(aar.out.trans (iO.mono (fun _ _ e=>e.elim))).then aR (fun j hj e=>by have e':j=fg:=e;omega);have ab9:Hid (w6.heap.size<=(rG.setCell ⟨fg,k*4+3,none⟩ (.slice qs.a qs.n qs.c)).heap.size):=Nat.le_trans iO.size aR.size;have XF:Hid (Fr (fun b=>b=fg) w6 (rG.setCell ⟨fg,k*4+3,none⟩ (.slice qs.a qs.n qs.c))):=(iO.mono (fun _ _ e=>e.elim)).trans aR;have hS5:=Xz.out _ iO;have K6:=And.intro hBx6.c4 (Ip 3);refine hK _ _ hS5 (fun _=>?_)
     clear hK K hHeld
     try simp only[Act.put,sA,sZ,sS]
     have hHeld:=hS5;clear Pn Po hBx6 uD VO cK iO aR Pk VN Ip Y5;refine tk 6 ?_
     refine tk 7 ?_
     refine iP 8 (fun K hK=>?_)
     go_simp;refine hK _ _ K6 (fun _=>?_)
     clear hK K hHeld
     try simp only[Act.put,sA,sZ,sS]
     refine wpAnyH_done (by kernel_rfl) ?_ _
     clear Xx gz2 hS5 K6 Xz;generalize rG.setCell ⟨fg,k*4+3,none⟩ (.slice qs.a qs.n qs.c)=DN at*;have Pq:((rs.set k {rr with v:=qv}).set k {rr with v:=qv,s:=qs})[k]?=some {rr with v:=qv,s:=qs}:=List.getElem?_set_self (List.getElem?_eq_some_iff.1 VU.out).1;have hqv:fF aP 53 3 w8.heap.size qv f.vars DN:=aaq.out.fr XF.out (fun b e e2=>by have h1:=Xy.out b e;have e':b=fg:=e2;omega)
     have aau:Dj qv qs:=fun b e1 e2=>by have h1:=(aaq.out.lt e1).2;have h2:=XD.out b e2;omega
     have iW:∀b,(⟨some ⟨fg,0,none⟩,a.fr.length,AQ⟩:ai).ob=some b->b=fg:=fun b e=>by have:=Mx.symm.trans e;simpa using this.symm
     have hclose:=XC.out.close Pq NB.out.2.1 (⟨uf.out.fn,uf.out.at_,hqv,ab7.out,aau⟩:Fo w8.heap.size {rr with v:=qv,s:=qs} f DN) ⟨fun b e1 e2=>by have h0:=iW b e1;have h1:=Xy.out b e2;omega,fun b e1 e2=>by have h0:=iW b e1;have h1:=XD.out b e2;omega⟩ wB.heap.size (fun i q hi e=>by
      rw[List.getElem?_set_ne (by omega),List.getElem?_set_ne (by omega)] at e;obtain⟨f',hf'⟩:∃y,a.fr[i]?=some y:=⟨_,List.getElem?_eq_getElem (by omega)⟩
      obtain⟨b1,-⟩:=VQ.out.ep i q f' hi e hf';exact⟨fun b e=>(b1.v.lt e).2,fun b e=>(b1.s.lt e).2⟩) (fun b e=>Xy.out b e) (fun b e=>by have h1:=XD.out b e;have h2:=Pp.out;omega)
     have xZ:Hid (∃rs,Fw w8.heap.size ⟨some ⟨fg,0,none⟩,a.fr.length,AQ⟩ rs (k+1) a.fr DN/\(∀i,k+1<=i->rs[i]?=VL[i]?)/\Bx w.heap.size a ⟨Sk,a.pg.cs.length,ME⟩ qw ⟨some ⟨fg,0,none⟩,a.fr.length,AQ⟩ sh DN/\Fr (fun j=>j=w.heap.size) w8 DN):=⟨_,hclose,fun i hi=>by rw[List.getElem?_set_ne (by omega),List.getElem?_set_ne (by omega)];exact NB.out.1 i (by omega),XB.out,XE.out⟩
     clear Pq hqv aau iW hclose
     go_wp2_with fail
     go_roundw
     case rel=>exact⟨k+1,by omega,by go_num,xZ⟩
     case measure=>simp[intOf];omega
    ·obtain rfl:k=a.fr.length:=by omega
     obtain⟨rs,qy,-,hBx,iT⟩:=hRk.out;have Oo:a.hp.length<=1000000:=by have:=xY.out.hp;omega
     have MF:=hide qy;have Sm:=hide hBx;have sJ:=hide iT;have TR:Hid (Fr nothing w wr):=AP.out.then iT (fun j hj e=>by have e':j=w.heap.size:=e;omega)
     have b5':=hBx.c5;have bl':=hBx.ml;clear qy hBx iT hRk
     go_upto_region 16 with(go_at_call 35;refine(H9 sh a.hp _ (HH0.out.fr TR.out (fun _ _=>id)) Oo).mono ?_;rintro e w7 ⟨qh,rfl,dZ,ho7⟩;have EL:=hide (Sm.out.fr dZ id);have dH:=hide dZ;have EI:=hide ho7;have b5:=EL.out.c5;have bz5:=EL.out.z 5;have bl7:=EL.out.ml;clear dZ ho7)
     have gT:Fr (fun j=>j=w.heap.size) w7 (w7.setCell ⟨w.heap.size,5,none⟩ (.slice qh.a qh.n qh.c)):=(Fr.refl (fun j=>j=w.heap.size) w7).setCell (p:=⟨w.heap.size,5,none⟩) (.inl rfl) _;have Pm:=hide (EL.out.s5 qh);have XG:Hid (Fr (fun j=>j=w.heap.size) w8 (w7.setCell ⟨w.heap.size,5,none⟩ (.slice qh.a qh.n qh.c))):=(sJ.out.trans (dH.out.mono (fun _ _ e=>e.elim))).trans gT;have hs1:=sJ.out.size;have hs2:=dH.out.size;have NC:Hid (Mo w8.heap.size ⟨Gl,a.fr.length,AQ⟩ qh rs a.fr a.hp (w7.setCell ⟨w.heap.size,5,none⟩ (.slice qh.a qh.n qh.c))):=by
      have hqh:∀b,qh.ob=some b->wr.heap.size<=b:=fun b e=>(EI.out.lt e).1
      have hm:Mo w8.heap.size ⟨Gl,a.fr.length,AQ⟩ qh rs a.fr a.hp w7:=⟨Nat.le_trans hs1 hs2,MF.out.fr dH.out (fun _ _ _=>id),EI.out.low hs1,fun b e1 e2=>by have h1:=(MF.out.row.lt e1).2;have h2:=hqh b e2;omega,fun q hq=>by
       obtain⟨i,hi⟩:=List.mem_iff_getElem?.1 hq;have hil:=(List.getElem?_eq_some_iff.1 hi).1;rw[MF.out.len] at hil;obtain⟨b1,-⟩:=MF.out.ep i q _ hil hi (List.getElem?_eq_getElem hil);exact⟨fun b e1 e2=>by have h1:=hqh b e1;have h2:=(b1.v.lt e2).2;omega,fun b e1 e2=>by have h1:=hqh b e1;have h2:=(b1.s.lt e2).2;omega⟩⟩
      exact hm.fr gT (fun b h1 h2 e=>by have e':b=w.heap.size:=e;have:=AP.out.size;omega)
     clear gT b5 bz5 bl7 EL b5' bl' Sm sJ dH EI MF TR hs1 hs2;generalize w7.setCell ⟨w.heap.size,5,none⟩ (.slice qh.a qh.n qh.c)=w9 at*;obtain⟨k0,k1,k2,k3,k4,k5,k6,k7,k8,-,kl⟩:=Pm.out;have hR9:=HRR.out w9 ((aak.out.mono (fun j hj e=>by have e':j=w.heap.size:=e;omega)).trans (XG.out.mono (fun j hj e=>by have e':j=w.heap.size:=e;omega)))
     obtain⟨hr,hz,hrl⟩:=hR9;have r0:=hr 0 (by decide);have r1:=hr 1 (by decide);have r2:=hr 2 (by decide);have r3:=hr 3 (by decide);have r4:=hr 4 (by decide);have r5:=hr 5 (by decide);have r6:=hr 6 (by decide);have r7:=hr 7 (by decide);have r8:=hr 8 (by decide);have y0:=hz 0;have y1:=hz 1;have y2:=hz 2;have y3:=hz 3;have y4:=hz 4;have y5:=hz 5;have y6:=hz 6;have y7:=hz 7;have y8:=hz 8;obtain⟨w6,nK,cA,cB,fK⟩:=Aw (w:=w9) (b:=w.heap.size+1) (f:=fun i=>oM.getD i (.int .i64 0)) (.int .i64 a.id) (.int .i64 a.bu) (.slice Sk a.pg.cs.length ME) (.slice qw.a qw.n qw.c) (.slice Gl a.fr.length AQ) (.slice qh.a qh.n qh.c) (.int .i64 a.fuel) (.int .i64 a.cells) (.int .i64 a.hops) (fun i hi=>by
      rw[hr i hi]
      match i,hi with
      |0,_|1,_|2,_|3,_|4,_|5,_|6,_|7,_|8,_=>rfl)
     clear hr hz Pm
     go_wp2_with fail
     obtain⟨c0,c1,c2,c3,c4⟩:=cA;obtain⟨c5,c6,c7,c8⟩:=cB;have hsw:=AP.out.size;have hs2w:=bq.out.size;refine bodyPost_ret (v:=.agg (gH a ⟨Sk,a.pg.cs.length,ME⟩ qw ⟨Gl,a.fr.length,AQ⟩ qh)) (by simp[results,Tryz.results14,go_sem,c0,c1,c2,c3,c4,c5,c6,c7,c8,gH]) rfl ⟨⟨Sk,a.pg.cs.length,ME⟩,qw,⟨Gl,a.fr.length,AQ⟩,qh,rfl,(AP.out.then XG.out (fun j hj e=>by have e':j=w.heap.size:=e;omega)).then fK (fun j hj e=>by have e':j=w.heap.size+1:=e;omega),rs,w8.heap.size,hsw,NC.out.fr fK (fun b h1 h2 e=>by have e':b=w.heap.size+1:=e;omega),fun w'' hf=>?_⟩
     exact vC.out w'' (((XG.out.mono (fun j hj e=> .inl (by have e':j=w.heap.size:=e;omega))).trans (fK.mono (fun j hj e=> .inl (by have e':j=w.heap.size+1:=e;omega)))).trans (hf.mono (fun j hj e=>e.elim (fun e=> .inl (by omega)) .inr)))
end
section
structure Bm (mb:Nat) (x:Fx) (a:Ag) (qf qh:ai) (w:World):Prop where
 c:∀j,j<13->w.cell? ⟨mb,j,none⟩=(#[.int .i64 a.id,.int .i64 a.bu,.slice x.sc.a x.sc.n x.sc.c,.slice x.sw.a x.sw.n x.sw.c,.slice qf.a qf.n qf.c,.slice qh.a qh.n qh.c,.int .i64 a.fuel,.int .i64 a.cells,.int .i64 a.hops,.string (bs x.nm),.slice x.cu.a x.cu.n x.cu.c,.int .i64 x.kD,.int .i64 x.kE]:Array Value)[j]?
 z:∀j,w.frozen? ⟨mb,j,none⟩=false
 ml:mb<w.heap.size
theorem Bm.mt {B mb N:Nat} {x:Fx} {a:Ag} {qf qh:ai} {w:World} {rs:List aQ} {pre:List Fm} {f:Fm} (hb:Bm mb x a qf qh w) (h:Mo B qf qh rs (pre++ [f]) a.hp w) (hfr:a.fr=pre++ [f]) (hN:∀k,(qf.ob=some k\/qh.ob=some k\/∃q∈rs,q.v.ob=some k\/q.s.ob=some k)->k<N) (hm:mb<B\/N<=mb):
 ∃rp r m,m.ag=a/\Mt B mb x qf qh rp r m w:=by
 have hlen:=h.fw.len;have hne:rs≠ []:=fun e=>by rw[e] at hlen;simp at hlen
 obtain⟨rp,r,rfl⟩:∃rp r,rs=rp++ [r]:=⟨_,_,(List.dropLast_concat_getLast hne).symm⟩
 have hlp:rp.length=pre.length:=by simpa using hlen
 have hpl:(pre++ [f]).length=pre.length+1:=by simp
 have hlast:(rp++ [r])[rp.length]?=some r:=by simp
 have hlf:(pre++ [f])[rp.length]?=some f:=by rw[hlp];simp
 have hel:∀(i:Nat) (q:aQ),rp[i]?=some q->(rp++ [r])[i]?=some q/\i<rp.length:=fun i q e=>by
  have hi:=(List.getElem?_eq_some_iff.1 e).1;exact⟨by rw[List.getElem?_append_left hi];exact e,hi⟩
 have hef:∀(i:Nat) (g:Fm),pre[i]?=some g->(pre++ [f])[i]?=some g:=fun i g e=>by
  rw[List.getElem?_append_left (List.getElem?_eq_some_iff.1 e).1];exact e
 have hat:=h.fw.ep rp.length r f (by omega) hlast hlf;have hmem:∀q∈rp,∃i,(rp++ [r])[i]?=some q/\i<rp.length:=fun q hq=>by
  obtain⟨i,hi⟩:=List.mem_iff_getElem?.1 hq;exact⟨i,hel i q hi⟩
 have hge:∀k,Ob qf qh rp r k->B<=k/\k<N:=fun k hk=>by
  refine⟨?_,?_⟩
  ·rcases hk with e|e|e|e|⟨q,hq,e⟩
   ·exact(h.fw.row.lt e).1
   ·exact(h.hp.lt e).1
   ·exact(hat.1.v.lt e).1
   ·exact(hat.1.s.lt e).1
   ·obtain⟨i,e1,hi⟩:=hmem q hq;obtain⟨g,hg⟩:∃g,(pre++ [f])[i]?=some g:=⟨_,List.getElem?_eq_getElem (by omega)⟩
    have:=h.fw.ep i q g (by omega) e1 hg;rcases e with e|e
    ·exact(this.1.v.lt e).1
    ·exact(this.1.s.lt e).1
  ·rcases hk with e|e|e|e|⟨q,hq,e⟩
   ·exact hN k (.inl e)
   ·exact hN k (.inr (.inl e))
   ·exact hN k (.inr (.inr ⟨r,by simp,.inl e⟩))
   ·exact hN k (.inr (.inr ⟨r,by simp,.inr e⟩))
   ·exact hN k (.inr (.inr ⟨q,by simp[hq],e⟩))
 refine⟨rp,r,⟨a.id,a.bu,a.pg,pre,f,a.hp,a.fuel,a.cells,a.hops⟩,by unfold Mc.ag;rw[<-hfr],?_⟩
 exact⟨hb.c 0 (by decide),hb.c 1 (by decide),hb.c 2 (by decide),hb.c 3 (by decide),hb.c 4 (by decide),hb.c 5 (by decide),hb.c 6 (by decide),hb.c 7 (by decide),hb.c 8 (by decide),hb.c 9 (by decide),hb.c 10 (by decide),hb.c 11 (by decide),hb.c 12 (by decide),hb.z,hb.ml,h.bl,h.fw.row,hlp,fun i q g e1 e2=>(h.fw.ep i q g (by have:=(hel i q e1).2;omega) (hel i q e1).1 (hef i g e2)).1,hat.1,h.hp,h.Bz,hat.2,h.Ae r (by simp),fun q hq=>by
  obtain⟨i,e1,hi⟩:=hmem q hq;obtain⟨g,hg⟩:∃g,(pre++ [f])[i]?=some g:=⟨_,List.getElem?_eq_getElem (by omega)⟩
  exact(h.fw.ep i q g (by omega) e1 hg).2,fun q hq=>h.Ae q (by simp[hq]),fun q hq=>by
  obtain⟨i,e1,hi⟩:=hmem q hq;exact h.fw.AA rp.length i r q (by omega) (by omega) (by omega) hlast e1,fun i j q q' hij e1 e2=>h.fw.AA i j q q' (by have:=(hel i q e1).2;omega) (by have:=(hel j q' e2).2;omega) hij (hel i q e1).1 (hel j q' e2).1,fun k hk=>by have:=hge k hk;omega⟩
section
variable {B mb M : Nat} {x : Fx} {qf qh : ai} {rp : List aQ} {r : aQ} {m : Mc} {w w' : World} {a : Ag} {S : Nat → Prop}
def Out (mb:Nat) (x:Fx) (a:Ag) (qf qh:ai) (w:World):Prop:=
 (w.cell? ⟨mb,0,none⟩=some (.int .i64 a.id)/\w.cell? ⟨mb,1,none⟩=some (.int .i64 a.bu)/\w.cell? ⟨mb,2,none⟩=some (.slice x.sc.a x.sc.n x.sc.c)/\w.cell? ⟨mb,3,none⟩=some (.slice x.sw.a x.sw.n x.sw.c)/\w.cell? ⟨mb,4,none⟩=some (.slice qf.a qf.n qf.c))/\
 (w.cell? ⟨mb,5,none⟩=some (.slice qh.a qh.n qh.c)/\w.cell? ⟨mb,6,none⟩=some (.int .i64 a.fuel)/\w.cell? ⟨mb,7,none⟩=some (.int .i64 a.cells)/\w.cell? ⟨mb,8,none⟩=some (.int .i64 a.hops))/\mb<w.heap.size
theorem Mt.out (h:Mt B mb x qf qh rp r m w):Out mb x m.ag qf qh w:=⟨⟨h.c0,h.c1,h.c2,h.c3,h.c4⟩,⟨h.c5,h.c6,h.c7,h.c8⟩,h.ml⟩
theorem Mt.MG (h:Mt B mb x qf qh rp r m w) (hf:Fr S w w') (hm:¬S mb) (hS:∀k,B<=k->¬S k) (hP:iq w' x.sc x.sw m.pg):iK w' x.sc x.sw qf qh m.ag:=by
 have h':=h.keep hf hm (fun k hk=>hS k (h.ob hk).1);exact⟨hP,⟨rp++ [r],h'.fr.sl dA,h'.each⟩,h'.hp.sl bY⟩
theorem Mz.MG (h:Mz B mb x qf qh a w) (hf:Fr S w w') (hm:¬S mb) (hS:∀k,B<=k->¬S k) (hP:iq w' x.sc x.sw a.pg):iK w' x.sc x.sw ⟨qf.a,0,qf.c⟩ qh a:=by
 have h':=h.fr hf hm (fun b e=>hS b (h.hp.lt e).1);refine⟨hP,⟨[],⟨qf.a,qf.c,rfl,by unfold maxLen;simp,fun i y e=>by simp at e⟩,?_⟩,h'.hp.sl bY⟩
 rw[h.e];exact⟨rfl,fun i q f e=>by simp at e⟩
end
end
end Go.Proofs.YtbcadjgpcfmkfaaGreatDoor
