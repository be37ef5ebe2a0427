/- MRun. -/
import Derived.Test.YtbcadjgpcfmkfaaGreatDoorPartU20
import Derived.Test.YtbcadjgpcfmkfaaGreatDoorPartU1
set_option maxHeartbeats 0
set_option maxRecDepth 100000
set_option linter.unusedSimpArgs false
namespace Go.Proofs.YtbcadjgpcfmkfaaGreatDoor
open Go Go.RowKit
section
theorem kY {a:Ag} {away:Bool} (h:dx a away=0):AgB a:=by
 obtain⟨pre,f,R⟩:=qz h;have hcv:=bB.1 R.ct;have hz:aU a.pg=0:=R.pg;have hh:a.pg.cs.length<=5/\a.pg.ws.length<=16:=by
  unfold aU at hz;split at hz
  ·rename_i h1;exact absurd hz h1
  rename_i h1
  have:=iR (Classical.not_not.1 h1);exact⟨this.2.1,this.2.2.1⟩
 have Pv:∀g q,frameC a.pg g q=0->g.vars.length<=100000/\g.stack.length<=100000:=fun g q hg=>by
  obtain⟨c,V,-,hs⟩:=eZ.1 hg;have h1:=gU R.pg (List.mem_of_getElem? V.cd);have h2:=V.vars;have h3:=qP c g.at_.toNat;constructor
  ·omega
  ·split at hs<;>omega
 refine⟨by omega,fun c hc=>by have:=gU R.pg hc;omega,by omega,by omega,fun g hg=>?_,by omega⟩
 rw[R.fr] at hg;rcases List.mem_append.1 hg with hg|hg
 ·obtain⟨k,hk⟩:=List.mem_iff_getElem?.1 hg;exact Pv g _ (R.pr k g hk).1
 ·rw[List.mem_singleton.1 hg];exact Pv f _ R.tp
abbrev zMc:Array Value:=#[.int .i64 0,.int .i64 0,.slice none 0 0,.slice none 0 0,.slice none 0 0,.slice none 0 0,.int .i64 0,.int .i64 0,.int .i64 0,.string ⟨#[]⟩,.slice none 0 0,.int .i64 0,.int .i64 0]
theorem aav {w:World} {b:Nat} {f:Nat->Value} (x0 x1 x2 x3 x4 x5 x6 x7 x8 x9 x10 x11 x12:Value) (h:∀i,i<13->w.cell? ⟨b,i,none⟩=some (f i)):
 ∃w5,((((((((((((w.setCell ⟨b,0,none⟩ x0).setCell ⟨b,1,none⟩ x1).setCell ⟨b,2,none⟩ x2).setCell ⟨b,3,none⟩ x3).setCell ⟨b,4,none⟩ x4).setCell ⟨b,5,none⟩ x5).setCell ⟨b,6,none⟩ x6).setCell ⟨b,7,none⟩ x7).setCell ⟨b,8,none⟩ x8).setCell ⟨b,9,none⟩ x9).setCell ⟨b,10,none⟩ x10).setCell ⟨b,11,none⟩ x11).setCell ⟨b,12,none⟩ x12=w5/\
  (∀j,j<13->w5.cell? ⟨b,j,none⟩=(#[x0,x1,x2,x3,x4,x5,x6,x7,x8,x9,x10,x11,x12]:Array Value)[j]?)/\(∀j,w5.frozen? ⟨b,j,none⟩=w.frozen? ⟨b,j,none⟩)/\Fr (fun k=>k=b) w w5:=by
 have h0:=dD (v:=x0) h (j:=0) (by decide);have h1:=dD (v:=x1) h0 (j:=1) (by decide);have h2:=dD (v:=x2) h1 (j:=2) (by decide);have h3:=dD (v:=x3) h2 (j:=3) (by decide);have h4:=dD (v:=x4) h3 (j:=4) (by decide);have h5:=dD (v:=x5) h4 (j:=5) (by decide);have h6:=dD (v:=x6) h5 (j:=6) (by decide);have h7:=dD (v:=x7) h6 (j:=7) (by decide);have h8:=dD (v:=x8) h7 (j:=8) (by decide);have h9:=dD (v:=x9) h8 (j:=9) (by decide);have h10:=dD (v:=x10) h9 (j:=10) (by decide);have h11:=dD (v:=x11) h10 (j:=11) (by decide);have h12:=dD (v:=x12) h11 (j:=12) (by decide);refine⟨_,rfl,fun j hj=>?_,fun j=>by simp only[World.frozen?_setCell],?_⟩
 ·rw[h12 j hj]
  match j,hj with
  |0,_|1,_|2,_|3,_|4,_|5,_|6,_|7,_|8,_|9,_|10,_|11,_|12,_=>rfl
 ·exact(((((((((((((Fr.refl (fun k=>k=b) w).setCell (p:=⟨b,0,none⟩) (.inl rfl) _).setCell (p:=⟨b,1,none⟩) (.inl rfl) _).setCell (p:=⟨b,2,none⟩) (.inl rfl) _).setCell (p:=⟨b,3,none⟩) (.inl rfl) _).setCell (p:=⟨b,4,none⟩) (.inl rfl) _).setCell (p:=⟨b,5,none⟩) (.inl rfl) _).setCell (p:=⟨b,6,none⟩) (.inl rfl) _).setCell (p:=⟨b,7,none⟩) (.inl rfl) _).setCell (p:=⟨b,8,none⟩) (.inl rfl) _).setCell (p:=⟨b,9,none⟩) (.inl rfl) _).setCell (p:=⟨b,10,none⟩) (.inl rfl) _).setCell (p:=⟨b,11,none⟩) (.inl rfl) _).setCell (p:=⟨b,12,none⟩) (.inl rfl) _
def TS (w:World) (r:Ag×Ev) (e:Ending) (w':World):Prop:=∃aY bG qf qh:ai,e=.returned (.tuple #[.agg (gH r.1 aY bG qf qh),je r.2])/\Fr nothing w w'/\iK w' aY bG qf qh r.1
def Made (w w4:World) (a:Ag) (sp:Sp) (cu:ai) (kD kE:Int) (mb:Nat) (wx:World):Prop:=∃(aY bG qf qh:ai) (rs:List aQ) (B N:Nat),
 Bm mb ⟨aY,bG,sp.name,cu,kD,kE⟩ a qf qh wx/\Mo B qf qh rs a.fr a.hp wx/\(∀k,(qf.ob=some k\/qh.ob=some k\/∃q∈rs,q.v.ob=some k\/q.s.ob=some k)->k<N)/\(mb<B\/N<=mb)/\(w.heap.size+4<=mb/\w.heap.size+4<=B)/\Fr nothing w4 wx/\(∀w'',Fr (fun k=>k<w.heap.size+4\/B<=k\/k=mb) wx w''->iq w'' aY bG a.pg)
theorem Mo.rows {B:Nat} {qf qh:ai} {rs:List aQ} {fs:List Fm} {hp:List aV} {w:World} (h:Mo B qf qh rs fs hp w):∀k,(qf.ob=some k\/qh.ob=some k\/∃q∈rs,q.v.ob=some k\/q.s.ob=some k)->k<w.heap.size:=fun k hk=>by
 rcases hk with e|e|⟨q,hq,e⟩
 ·exact(h.fw.row.lt e).2
 ·exact(h.hp.lt e).2
 ·obtain⟨i,hi⟩:=List.mem_iff_getElem?.1 hq;have hil:=(List.getElem?_eq_some_iff.1 hi).1;rw[h.fw.len] at hil;obtain⟨b1,-⟩:=h.fw.ep i q _ hil hi (List.getElem?_eq_getElem hil);rcases e with e|e
  ·exact(b1.v.lt e).2
  ·exact(b1.s.lt e).2
theorem yc (a:Ag) (sc sw sf sh:ai) (sp:Sp) (cu:ai) (kD kE most:Int) (w:World) (hA:iK w sc sw sf sh a) (hR:dx a false=0) (hfs:Sl kF 4 w cu.v sp.facts) (hsp:TB sp) (hnl:sp.name.length<=1000000) (ht:∀w',Fr nothing w w'->Cl.rC w') (hm0:-9223372036854775808<=most) (hm1:most<=9223372036854775807):
 Calls Tryz.prog 8 #[.agg (gH a sc sw sf sh),.agg #[.string (bs sp.name),.slice cu.a cu.n cu.c,.int .i64 kD,.int .i64 kE],.int .i64 most] w (TS w (gD fZ sp most.toNat a)):=by
 have F1:Fr nothing w (w.alloc (.cells (gH a sc sw sf sh) 31)):=(Fr.refl _ _).alloc _;obtain⟨w1,hw1⟩:∃y,y=w.alloc (.cells (gH a sc sw sf sh) 31):=⟨_,rfl⟩
 have F2:Fr nothing w1 (w1.alloc (.cells #[.string (bs sp.name),.slice cu.a cu.n cu.c,.int .i64 kD,.int .i64 kE] 34)):=(Fr.refl _ _).alloc _;obtain⟨w2,hw2⟩:∃y,y=w1.alloc (.cells #[.string (bs sp.name),.slice cu.a cu.n cu.c,.int .i64 kD,.int .i64 kE] 34):=⟨_,rfl⟩
 have F3:Fr nothing w2 (w2.alloc (.cells oM 31)):=(Fr.refl _ _).alloc _;obtain⟨w3,hw3⟩:∃y,y=w2.alloc (.cells oM 31):=⟨_,rfl⟩
 have F4:Fr nothing w3 (w3.alloc (.cells #[.int .i64 0,.string ⟨#[]⟩,.int .i64 0] 39)):=(Fr.refl _ _).alloc _;obtain⟨w4,hw4⟩:∃y,y=w3.alloc (.cells #[.int .i64 0,.string ⟨#[]⟩,.int .i64 0] 39):=⟨_,rfl⟩
 rw[<-hw1] at F1;rw[<-hw2] at F2;rw[<-hw3] at F3;rw[<-hw4] at F4;have z1:w1.heap.size=w.heap.size+1:=by rw[hw1];simp
 have z2:w2.heap.size=w.heap.size+2:=by rw[hw2];simp[z1]
 have z3:w3.heap.size=w.heap.size+3:=by rw[hw3];simp[z2]
 have z4:w4.heap.size=w.heap.size+4:=by rw[hw4];simp[z3]
 have ma:=af (w:=w) (cs:=gH a sc sw sf sh) (t:=31) (w1:=w4) (S:=nothing) (by rw[<-hw1];exact(F2.trans F3).trans F4) id;have ms:=af (w:=w1) (cs:=#[.string (bs sp.name),.slice cu.a cu.n cu.c,.int .i64 kD,.int .i64 kE]) (t:=34) (w1:=w4) (S:=nothing) (by rw[<-hw2];exact F3.trans F4) id
 have mr:=af (w:=w2) (cs:=oM) (t:=31) (w1:=w4) (S:=nothing) (by rw[<-hw3];exact F4) id;have mq:=af (w:=w3) (cs:=#[.int .i64 0,.string ⟨#[]⟩,.int .i64 0]) (t:=39) (w1:=w4) (S:=nothing) (by rw[<-hw4];exact Fr.refl _ _) id
 rw[z1] at ms;rw[z2] at mr;rw[z3] at mq;have gX:Hid (Fr nothing w w4):=((F1.trans F2).trans F3).trans F4;have iL:Hid (∀w',Fr nothing w4 w'->(w'.cell? ⟨w.heap.size,0,none⟩=some (.int .i64 a.id)/\w'.cell? ⟨w.heap.size,1,none⟩=some (.int .i64 a.bu)/\w'.cell? ⟨w.heap.size,2,none⟩=some (.slice sc.a sc.n sc.c)/\w'.cell? ⟨w.heap.size,3,none⟩=some (.slice sw.a sw.n sw.c)/\w'.cell? ⟨w.heap.size,4,none⟩=some (.slice sf.a sf.n sf.c))/\(w'.cell? ⟨w.heap.size,5,none⟩=some (.slice sh.a sh.n sh.c)/\w'.cell? ⟨w.heap.size,6,none⟩=some (.int .i64 a.fuel)/\w'.cell? ⟨w.heap.size,7,none⟩=some (.int .i64 a.cells)/\w'.cell? ⟨w.heap.size,8,none⟩=some (.int .i64 a.hops))/\w'.cell? ⟨w.heap.size+1,0,none⟩=some (.string (bs sp.name))/\w'.cell? ⟨w.heap.size+1,1,none⟩=some (.slice cu.a cu.n cu.c)/\w'.cell? ⟨w.heap.size+1,2,none⟩=some (.int .i64 kD)/\w'.cell? ⟨w.heap.size+1,3,none⟩=some (.int .i64 kE)):=fun w' hf=>by
  have hc:∀j,w'.cell? ⟨w.heap.size,j,none⟩=_:=fun j=>(hf.cell (p:=⟨w.heap.size,j,none⟩) ma.2.2 id).trans (ma.1 j)
  have hs:∀j,w'.cell? ⟨w.heap.size+1,j,none⟩=_:=fun j=>(hf.cell (p:=⟨w.heap.size+1,j,none⟩) ms.2.2 id).trans (ms.1 j)
  exact⟨⟨hc 0,hc 1,hc 2,hc 3,hc 4⟩,⟨hc 5,hc 6,hc 7,hc 8⟩,hs 0,hs 1,hs 2,hs 3⟩
 have TT:Hid (∀w',Fr (fun k=>w.heap.size+4<=k) w4 w'->(∀j,w'.cell? ⟨w.heap.size+2,j,none⟩=oM[j]?)/\(∀j,w'.frozen? ⟨w.heap.size+2,j,none⟩=false)/\(∀j,w'.cell? ⟨w.heap.size+3,j,none⟩=(#[.int .i64 0,.string ⟨#[]⟩,.int .i64 0]:Array Value)[j]?)/\(∀j,w'.frozen? ⟨w.heap.size+3,j,none⟩=false)/\w.heap.size+3<w'.heap.size):=fun w' hf=>⟨fun j=>(hf.cell (p:=⟨w.heap.size+2,j,none⟩) mr.2.2 (fun e=>by have e':w.heap.size+4<=w.heap.size+2:=e;omega)).trans (mr.1 j),fun j=>(hf.frozen (p:=⟨w.heap.size+2,j,none⟩) mr.2.2 (fun e=>by have e':w.heap.size+4<=w.heap.size+2:=e;omega)).trans (mr.2.1 j),fun j=>(hf.cell (p:=⟨w.heap.size+3,j,none⟩) mq.2.2 (fun e=>by have e':w.heap.size+4<=w.heap.size+3:=e;omega)).trans (mq.1 j),fun j=>(hf.frozen (p:=⟨w.heap.size+3,j,none⟩) mq.2.2 (fun e=>by have e':w.heap.size+4<=w.heap.size+3:=e;omega)).trans (mq.2.1 j),Nat.lt_of_lt_of_le mq.2.2 hf.size⟩
 have HOWN:Hid (∀w',Fr nothing w4 w'->Calls Tryz.prog 14 #[.agg (gH a sc sw sf sh)] w' fun e w''=>∃(aY bG qf qh:ai) (rs:List aQ) (B:Nat),e=.returned (.agg (gH a aY bG qf qh))/\Fr nothing w' w''/\w'.heap.size<=B/\Mo B qf qh rs a.fr a.hp w''/\(∀w''',Fr (fun k=>k<w'.heap.size\/B<=k) w'' w'''->iq w''' aY bG a.pg)):=fun w' hf=>sI a sc sw sf sh w' (hA.fr' (gX.out.trans hf)) (kY hR)
 have VV:=hide (And.intro hR (And.intro hfs (And.intro hsp (And.intro hnl ht))));have pQ:=hw1.symm;have e2':=hw2.symm;have e3':=hw3.symm;have e4':=hw4.symm;obtain⟨rx,hrx⟩:∃y,y=gD fZ sp most.toNat a:=⟨_,rfl⟩
 rw[<-hrx];have HRX:=hide hrx;clear hA hR hfs hsp hnl ht ma ms mr mq F1 F2 F3 F4 hw1 hw2 hw3 hw4 hrx
 go_enter Tryz.func8,Tryz.ntmps8
 go_wp2_with fail
 go_cut [8] (fun v8 wx=>∃mb:Nat,v8=.pointer (some ⟨mb,0,none⟩)/\Hid (Made w w4 a sp cu kD kE mb wx))
 case first=>
  refine hd iL (fun hHeld=>?_)
  refine tk 0 ?_
  refine tk 2 ?_
  refine rH [1,4] ?_
  refine cH (fun K hK=>?_) (cH (fun K hK=>?_) AllReadyH.nil)
  ·refine aF rfl 14 Tryz.f14 #[.tmp 11] #[31] rfl Tryz.func14 (by kernel_rfl) (by kernel_rfl) #[.agg (gH a sc sw sf sh)] (by simp[Act.eval,gH]) _ (HOWN.out _ (Fr.refl nothing w4).drew) ?_
   rintro e w5 ⟨aY,bG,qf,qh,rs,B,rfl,cK,Tm,Af,Dn⟩;refine⟨_,rfl,?_⟩
   have vN:Fr nothing w4 w5:=(Fr.refl nothing w4).drew.trans cK;refine hK _ _ (iL.out _ vN) (fun _=>?_)
   clear hK K hHeld
   try simp only[Act.put,sA,sZ,sS]
   have hHeld:=iL.out _ vN;refine tk 3 ?_
   refine iP 4 (fun K hK=>?_)
   go_simp;refine hK _ _ (iL.out _ (vN.alloc _)) (fun _=>?_)
   clear hK K hHeld
   try simp only[Act.put,sA,sZ,sS]
   refine iP 5 (fun K hK=>?_)
   go_simp;refine hK _ _ (iL.out _ (vN.alloc _)) (fun _=>?_)
   clear hK K
   try simp only[Act.put,sA,sZ,sS]
   refine wpAnyH_done (by kernel_rfl) ?_ _
   have mM:=af (Fr.refl nothing (w5.alloc (.cells #[.int .i64 a.id,.int .i64 a.bu,.slice aY.a aY.n aY.c,.slice bG.a bG.n bG.c,.slice qf.a qf.n qf.c,.slice qh.a qh.n qh.c,.int .i64 a.fuel,.int .i64 a.cells,.int .i64 a.hops,.string (bs sp.name),.slice cu.a cu.n cu.c,.int .i64 kD,.int .i64 kE] 59))) id;have FM:Fr nothing w5 (w5.alloc (.cells #[.int .i64 a.id,.int .i64 a.bu,.slice aY.a aY.n aY.c,.slice bG.a bG.n bG.c,.slice qf.a qf.n qf.c,.slice qh.a qh.n qh.c,.int .i64 a.fuel,.int .i64 a.cells,.int .i64 a.hops,.string (bs sp.name),.slice cu.a cu.n cu.c,.int .i64 kD,.int .i64 kE] 59)):=(Fr.refl _ _).alloc _;have aaw:w.heap.size+4<=B:=by have h1:w4.heap.size<=B:=Tm;omega
   have xZ:Hid (Made w w4 a sp cu kD kE w5.heap.size (w5.alloc (.cells #[.int .i64 a.id,.int .i64 a.bu,.slice aY.a aY.n aY.c,.slice bG.a bG.n bG.c,.slice qf.a qf.n qf.c,.slice qh.a qh.n qh.c,.int .i64 a.fuel,.int .i64 a.cells,.int .i64 a.hops,.string (bs sp.name),.slice cu.a cu.n cu.c,.int .i64 kD,.int .i64 kE] 59))):=⟨aY,bG,qf,qh,rs,B,w5.heap.size,⟨fun j _=>mM.1 j,mM.2.1,mM.2.2⟩,Af.fr FM (fun _ _ _=>id),Af.rows,.inr (Nat.le_refl _),⟨by have:=vN.size;omega,aaw⟩,vN.trans FM,fun w'' hf=>Dn w'' ((FM.mono (fun _ _ e=>e.elim)).trans (hf.mono (fun k _ e=>by
    have h1:w4.drew.heap.size=w4.heap.size:=rfl;have h2:=Af.bl;rcases e with e|e|e
    ·exact .inl (by omega)
    ·exact .inr e
    ·exact .inr (by omega))))⟩
   clear mM FM Dn Af cK vN
   go_wp2_with fail
   go_meet
   case rel=>exact⟨w5.heap.size,rfl,xZ⟩
  ·go_simp;refine hK _ _ (iL.out _ ((Fr.refl nothing w4).alloc _).drew) (fun _=>?_)
   clear hK K hHeld
   try simp only[Act.put,sA,sZ,sS]
   refine iP 1 (fun K hK=>?_)
   refine aF rfl 14 Tryz.f14 #[.tmp 11] #[31] rfl Tryz.func14 (by kernel_rfl) (by kernel_rfl) #[.agg (gH a sc sw sf sh)] (by simp[Act.eval,gH]) _ (HOWN.out _ ((Fr.refl nothing w4).alloc _).drew) ?_
   rintro e w5 ⟨aY,bG,qf,qh,rs,B,rfl,cK,Tm,Af,Dn⟩;refine⟨_,rfl,?_⟩
   have vN:Fr nothing w4 w5:=((Fr.refl nothing w4).alloc _).drew.trans cK;have mM:=af (w:=w4) (cs:=zMc) (t:=59) (w1:=w5) (S:=nothing) ((Fr.refl nothing _).drew.trans cK) id;rw[z4] at mM;refine hK _ _ (iL.out _ vN) (fun _=>?_)
   clear hK K
   try simp only[Act.put,sA,sZ,sS]
   have hHeld:=iL.out _ vN;refine tk 3 ?_
   obtain⟨w6,nK,hc6,mG,fK⟩:=aav (w:=w5) (b:=w.heap.size+4) (f:=fun i=>zMc.getD i (.int .i64 0)) (.int .i64 a.id) (.int .i64 a.bu) (.slice aY.a aY.n aY.c) (.slice bG.a bG.n bG.c) (.slice qf.a qf.n qf.c) (.slice qh.a qh.n qh.c) (.int .i64 a.fuel) (.int .i64 a.cells) (.int .i64 a.hops) (.string (bs sp.name)) (.slice cu.a cu.n cu.c) (.int .i64 kD) (.int .i64 kE) (fun i hi=>by
    rw[mM.1 i]
    match i,hi with
    |0,_|1,_|2,_|3,_|4,_|5,_|6,_|7,_|8,_|9,_|10,_|11,_|12,_=>rfl)
   have y0:=mM.1 0;have y1:=mM.1 1;have y2:=mM.1 2;have y3:=mM.1 3;have y4:=mM.1 4;have y5:=mM.1 5;have y6:=mM.1 6;have y7:=mM.1 7;have y8:=mM.1 8;have y9:=mM.1 9;have y10:=mM.1 10;have y11:=mM.1 11;have y12:=mM.1 12;have yz0:=mM.2.1 0;have yz1:=mM.2.1 1;have yz2:=mM.2.1 2;have yz3:=mM.2.1 3;have yz4:=mM.2.1 4;have yz5:=mM.2.1 5;have yz6:=mM.2.1 6;have yz7:=mM.2.1 7;have yz8:=mM.2.1 8;have yz9:=mM.2.1 9;have acd:=mM.2.1 10;have ace:=mM.2.1 11;have acf:=mM.2.1 12;have TU:=Nat.lt_of_lt_of_le mM.2.2 fK.size;have aaw:w4.heap.size+1<=B:=by have h1:((w4.alloc (.cells zMc 59)).drew).heap.size<=B:=Tm;simp[World.drew] at h1;exact h1
   have XH:Fr nothing w4 w6:=vN.then fK (fun k hk e=>by have e':k=w.heap.size+4:=e;omega);have xZ:Hid (Made w w4 a sp cu kD kE (w.heap.size+4) w6):=⟨aY,bG,qf,qh,rs,B,w5.heap.size,⟨hc6,fun j=>(mG j).trans (mM.2.1 j),TU⟩,Af.fr fK (fun b h1 h2 e=>by have e':b=w.heap.size+4:=e;omega),Af.rows,.inl (by omega),⟨by omega,by omega⟩,XH,fun w'' hf=>Dn w'' (((fK.mono (fun k _ e=>by
    have e':k=w.heap.size+4:=e;exact .inl (by simp[World.drew];omega))).trans (hf.mono (fun k _ e=>by
    rcases e with e|e|e
    ·exact .inl (by simp[World.drew];omega)
    ·exact .inr e
    ·exact .inl (by simp[World.drew];omega)))))⟩
   refine iP 5 (fun K hK=>?_)
   go_simp;refine hK _ _ (iL.out _ XH) (fun _=>?_)
   clear hK K hHeld
   try simp only[Act.put,sA,sZ,sS]
   refine wpAnyH_done (by kernel_rfl) ?_ _
   clear mM Dn Af cK vN XH hc6 mG fK y0 y1 y2 y3 y4 y5 y6 y7 y8 y9 y10 y11 y12 yz0 yz1 yz2 yz3 yz4 yz5 yz6 yz7 yz8 yz9 acd ace acf nK
   go_wp2_with fail
   go_meet
   case rel=>exact⟨w.heap.size+4,rfl,xZ⟩
 case rest=>
  obtain⟨mb,rfl,VW⟩:=hcut;obtain⟨aY,bG,qf0,qh0,Sj,B,N,hBm,Af,hrows,hside,⟨hmb4,hB4⟩,MH,Dn⟩:=VW.out;obtain⟨pre,f,R⟩:=qz VV.out.1;have aax:Mo B qf0 qh0 Sj (pre++ [f]) a.hp wc:=by rw[<-R.fr];exact Af
  obtain⟨VG,r0,m0,hag,hMt⟩:=hBm.mt aax R.fr hrows hside;have vC:=hide Dn;have HFX:=hide MH;have HTT:Hid (∀w',Fr (fun j=>w.heap.size+4<=j) w4 w'->Cl.rC w'):=fun w' hf=>VV.out.2.2.2.2 w' (gX.out.then hf (fun j hj e=>by have e':w.heap.size+4<=j:=e;omega))
  have BC:Hid (∀w',Fr (fun j=>w.heap.size+4<=j) w4 w'->Sl kF 4 w' cu.v sp.facts):=fun w' hf=>VV.out.2.1.fr (gX.out.then hf (fun j hj e=>by have e':w.heap.size+4<=j:=e;omega):Fr nothing w w') (fun _ _=>id)
  have aay:m0.pg=a.pg:=by have:=congrArg Ag.pg hag;exact this
  have HL:Hid (∃(m:Mc) (qf qh:ai) (rp:List aQ) (r:aQ),Mt B mb ⟨aY,bG,sp.name,cu,kD,kE⟩ qf qh rp r m wc/\dx m.ag false=0/\gD fZ sp (most.toNat-0) m.ag=rx/\m.pg=a.pg/\Fr (fun j=>B<=j\/j=mb) wc wc):=⟨m0,qf0,qh0,VG,r0,hMt,by rw[hag];exact VV.out.1,by rw[hag,Nat.sub_zero];exact HRX.out.symm,aay,Fr.refl _ _⟩
  have Y6:Hid (∀wr,Fr (fun j=>B<=j\/j=mb) wc wr->Fr (fun j=>w.heap.size+4<=j) w4 wr):=fun wr hf=>(MH.mono (fun _ _ e=>e.elim)).trans (hf.mono (fun j _ e=>by rcases e with e|e<;>omega))
  clear VW hBm Af aax hrows hside MH Dn hag hMt R aay
  go_wp2_with fail
  go_loopw [9,10] (fun i _ wr=>∃k:Nat,k<=most.toNat/\i=.int .i64 k/\Hid (∃(m:Mc) (qf qh:ai) (rp:List aQ) (r:aQ),Mt B mb ⟨aY,bG,sp.name,cu,kD,kE⟩ qf qh rp r m wr/\dx m.ag false=0/\gD fZ sp (most.toNat-k) m.ag=rx/\m.pg=a.pg/\Fr (fun j=>B<=j\/j=mb) wc wr)) (fun i _ _=>most.toNat-(intOf i).toNat)
  case atStart=>exact⟨0,Nat.zero_le _,rfl,HL⟩
  case round=>
   obtain⟨k,hk,rfl,hRk⟩:=hrel;clear HL;obtain⟨m,qf,qh,rp,r,hMt,VX,hrun,Ay,iT⟩:=hRk.out
   by_cases hlt:(k:Int)<most
   ·have hkn:most.toNat-k=(most.toNat-(k+1))+1:=by omega
    rw[hkn,gD] at hrun;have c6:=hMt.c6;have cml:=hMt.ml
    by_cases hfu:m.fuel=0
    ·have hfz:m.fuel<=0:=by omega
     rw[uE (show m.ag.fuel=0 from hfu),if_neg (by show ¬(5:Int)=0;decide)] at hrun;have Px:=hide hMt;have fV:=hide iT;have TV:=hide hrun;have VY:=hide Ay;clear hMt iT hrun Ay VX hRk
     go_wp2_with fail
     have hsc:∀w',Fr (fun j=>j=w.heap.size+2\/j=w.heap.size+3) wr w'->(w'.cell? ⟨mb,0,none⟩=some (.int .i64 m.ag.id)/\w'.cell? ⟨mb,1,none⟩=some (.int .i64 m.ag.bu)/\w'.cell? ⟨mb,2,none⟩=some (.slice aY.a aY.n aY.c)/\w'.cell? ⟨mb,3,none⟩=some (.slice bG.a bG.n bG.c)/\w'.cell? ⟨mb,4,none⟩=some (.slice qf.a qf.n qf.c))/\(w'.cell? ⟨mb,5,none⟩=some (.slice qh.a qh.n qh.c)/\w'.cell? ⟨mb,6,none⟩=some (.int .i64 m.ag.fuel)/\w'.cell? ⟨mb,7,none⟩=some (.int .i64 m.ag.cells)/\w'.cell? ⟨mb,8,none⟩=some (.int .i64 m.ag.hops)):=fun w' hf=>by
      have h':=Px.out.keep hf (by rintro(e|e)<;>omega) (fun j hj e=>by have h1:=(Px.out.ob hj).1;rcases e with e|e<;>omega);exact⟨⟨h'.c0,h'.c1,h'.c2,h'.c3,h'.c4⟩,h'.c5,h'.c6,h'.c7,h'.c8⟩
     have VZ:=hide hsc;clear hsc c6;refine wp_region_held_drew (S:=fun w'=>(w'.cell? ⟨mb,0,none⟩=some (.int .i64 m.ag.id)/\w'.cell? ⟨mb,1,none⟩=some (.int .i64 m.ag.bu)/\w'.cell? ⟨mb,2,none⟩=some (.slice aY.a aY.n aY.c)/\w'.cell? ⟨mb,3,none⟩=some (.slice bG.a bG.n bG.c)/\w'.cell? ⟨mb,4,none⟩=some (.slice qf.a qf.n qf.c))/\(w'.cell? ⟨mb,5,none⟩=some (.slice qh.a qh.n qh.c)/\w'.cell? ⟨mb,6,none⟩=some (.int .i64 m.ag.fuel)/\w'.cell? ⟨mb,7,none⟩=some (.int .i64 m.ag.cells)/\w'.cell? ⟨mb,8,none⟩=some (.int .i64 m.ag.hops))) (by kernel_rfl) (VZ.out _ (Fr.refl _ wr).drew) (fun hHeld=>?_)
     refine tk 0 ?_
     refine tk 1 ?_
     refine iP 2 (fun K hK=>?_)
     refine aF rfl 17 Tryz.f17 #[.const (.int .i64 12)] #[37] rfl Tryz.func17 (by kernel_rfl) (by kernel_rfl) #[.int .i64 12] (by simp[Act.eval]) _ (jK 12 _) ?_
     rintro e w5 ⟨rfl,cK⟩;refine⟨_,rfl,?_⟩
     have Iq:Fr nothing wr w5:=(Fr.refl nothing wr).drew.trans cK;have Ir:=(Y6.out wr fV.out).trans (Iq.mono (S':=fun j=>w.heap.size+4<=j) (fun _ _ e=>e.elim));refine hK _ _ (VZ.out _ (Iq.mono (fun _ _ e=>e.elim))) (fun _=>?_)
     clear hK K hHeld
     try simp only[Act.put,sA,sZ,sS]
     obtain⟨dG,mG,K8,K9,yg⟩:=TT.out w5 Ir;have r0:=dG 0;have r1:=dG 1;have r2:=dG 2;have r3:=dG 3;have r4:=dG 4;have r5:=dG 5;have r6:=dG 6;have r7:=dG 7;have r8:=dG 8;have x0:=mG 0;have x1:=mG 1;have x2:=mG 2;have x3:=mG 3;have x4:=mG 4;have x5:=mG 5;have x6:=mG 6;have x7:=mG 7;have x8:=mG 8;obtain⟨w9,h9,cA,cB,gT⟩:=Aw (w:=w5) (b:=w.heap.size+2) (f:=fun i=>oM.getD i (.int .i64 0)) (.int .i64 m.ag.id) (.int .i64 m.ag.bu) (.slice aY.a aY.n aY.c) (.slice bG.a bG.n bG.c) (.slice qf.a qf.n qf.c) (.slice qh.a qh.n qh.c) (.int .i64 m.ag.fuel) (.int .i64 m.ag.cells) (.int .i64 m.ag.hops) (fun i hi=>by
      rw[dG i]
      match i,hi with
      |0,_|1,_|2,_|3,_|4,_|5,_|6,_|7,_|8,_=>rfl)
     have s0:=(gT.cell (p:=⟨w.heap.size+3,0,none⟩) yg (fun e=>by have e':w.heap.size+3=w.heap.size+2:=e;omega)).trans (K8 0);have s1:=(gT.cell (p:=⟨w.heap.size+3,1,none⟩) yg (fun e=>by have e':w.heap.size+3=w.heap.size+2:=e;omega)).trans (K8 1)
     have s2:=(gT.cell (p:=⟨w.heap.size+3,2,none⟩) yg (fun e=>by have e':w.heap.size+3=w.heap.size+2:=e;omega)).trans (K8 2);have t0:=(gT.frozen (p:=⟨w.heap.size+3,0,none⟩) yg (fun e=>by have e':w.heap.size+3=w.heap.size+2:=e;omega)).trans (K9 0)
     have t1:=(gT.frozen (p:=⟨w.heap.size+3,1,none⟩) yg (fun e=>by have e':w.heap.size+3=w.heap.size+2:=e;omega)).trans (K9 1);have t2:=(gT.frozen (p:=⟨w.heap.size+3,2,none⟩) yg (fun e=>by have e':w.heap.size+3=w.heap.size+2:=e;omega)).trans (K9 2)
     obtain⟨mW,h10,d0,d1,d2,iY⟩:=WU (w:=w9) (b:=w.heap.size+3) (.int .i64 5) (.string (bs [])) (.int .i64 12) s0 s1 s2;have hl9:=Nat.lt_of_lt_of_le yg gT.size;have kZ:∀j,mW.cell? ⟨w.heap.size+2,j,none⟩=w9.cell? ⟨w.heap.size+2,j,none⟩:=fun j=>iY.cell (p:=⟨w.heap.size+2,j,none⟩) (by show w.heap.size+2<w9.heap.size;omega) (fun e=>by have e':w.heap.size+2=w.heap.size+3:=e;omega)
     have BP:Fr (fun j=>j=w.heap.size+2\/j=w.heap.size+3) w5 mW:=(gT.mono (fun _ _ e=> .inl e)).trans (iY.mono (fun _ _ e=> .inr e));have EM:=hide BP;obtain⟨MI,ND,Py,PE,PG⟩:=cA;obtain⟨PI,PK,PL,PM⟩:=cB;have jw:=hide (And.intro (And.intro ((kZ 0).trans MI) (And.intro ((kZ 1).trans ND) (And.intro ((kZ 2).trans Py) (And.intro ((kZ 3).trans PE) ((kZ 4).trans PG))))) (And.intro (And.intro ((kZ 5).trans PI) (And.intro ((kZ 6).trans PK) (And.intro ((kZ 7).trans PL) ((kZ 8).trans PM)))) (And.intro d0 (And.intro d1 d2))));clear dG mG K8 K9 kZ BP MI ND Py PE PG PI PK PL PM d0 d1 d2;have hfw:Fr nothing w w5:=gX.out.then Ir (fun j hj e=>by have e':w.heap.size+4<=j:=e;omega)
     have hpz:iq mW aY bG a.pg:=vC.out mW (((fV.out.trans (Iq.mono (S':=fun j=>B<=j\/j=mb) (fun _ _ e=>e.elim))).mono (fun j _ e=> .inr e)).trans (EM.out.mono (fun j _ e=> .inl (by rcases e with e|e<;>omega))));have hS9:=VZ.out w9 ((Iq.mono (fun _ _ e=>e.elim)).trans (gT.mono (fun _ _ e=> .inl e)));have XI:=VZ.out mW ((Iq.mono (fun _ _ e=>e.elim)).trans EM.out);have uf:=hide (Px.out.MG ((Iq.mono (S':=fun j=>j=w.heap.size+2\/j=w.heap.size+3) (fun _ _ e=>e.elim)).trans EM.out) (by rintro(e|e)<;>omega) (fun j hj e=>by rcases e with e|e<;>omega) (by rw[VY.out];exact hpz))
     have ni:=hide (hfw.then EM.out (fun j hj e=>by rcases e with e|e<;>omega));clear hfw hpz gT iY Iq Ir cK;refine iP 3 (fun K hK=>?_)
     go_simp;refine hK _ _ hS9 (fun _=>?_)
     clear hK K
     try simp only[Act.put,sA,sZ,sS]
     refine iP 4 (fun K hK=>?_)
     go_simp;refine hK _ _ XI (fun _=>?_)
     clear hK K
     try simp only[Act.put,sA,sZ,sS]
     refine wpAnyH_done (by kernel_rfl) ?_ _
     go_wp2_with fail
     obtain⟨⟨g0,g1,g2,g3,g4⟩,⟨g5,g6,g7,g8⟩,d0,d1,d2⟩:=jw.out;refine bodyPost_ret (v:=.tuple #[.agg #[.int .i64 m.ag.id,.int .i64 m.ag.bu,.slice aY.a aY.n aY.c,.slice bG.a bG.n bG.c,.slice qf.a qf.n qf.c,.slice qh.a qh.n qh.c,.int .i64 m.ag.fuel,.int .i64 m.ag.cells,.int .i64 m.ag.hops],je ⟨5,[],12⟩]) (by simp[results,Tryz.results8,go_sem,g0,g1,g2,g3,g4,g5,g6,g7,g8,d0,d1,d2]) rfl ?_
     rw[<-TV.out];exact⟨aY,bG,qf,qh,rfl,ni.out,uf.out⟩
    ·have Px:=hide hMt;have fV:=hide iT;have VY:=hide Ay;have HRG:=hide VX;have hbf:∀j,Ob qf qh rp r j->B<=j:=fun j hj=>(hMt.ob hj).1
     have hst:=Ph hMt VX hfu (fun w' hf=>by
      rw[Ay];exact vC.out w' ((iT.mono (fun j _ e=> .inr e)).trans (hf.mono (fun j _ e=> .inr (e.imp (hbf j) id))))) (fun w' hf=>HTT.out w' ((Y6.out wr iT).trans (hf.mono (fun j _ e=>by rcases e with e|e;(have:=hbf j e;omega);omega)))) sp rfl VV.out.2.2.2.1 (fun w' hf=>BC.out w' ((Y6.out wr iT).trans (hf.mono (fun j _ e=>by rcases e with e|e;(have:=hbf j e;omega);omega))))
     have hsr:=Ho (sh:=fZ) VX VV.out.2.2.1;have PN:=OY (sh:=fZ) (a:=m.ag) (s:=sp);obtain⟨a1,ev,hse⟩:∃a1 ev,jS fZ m.ag sp=(a1,ev):=⟨_,_,rfl⟩
     rw[hse] at hst hsr PN hrun;simp only at PN hrun;have HST:=hide hst;have HSR:=hide hsr;have hfz:¬m.fuel<=0:=by
      obtain⟨_,_,RR⟩:=qz VX;have h2:0<=m.fuel:=(bB.1 RR.ct).2.1.1;omega
     by_cases Ah:ev.k=0
     ·have hev:=PN Ah;subst hev;rw[if_pos rfl] at hrun;have TV:=hide hrun;clear hMt iT Ay VX hRk hst hsr PN hrun hse Ah;have acg:Hid (Calls Tryz.prog 18 #[.pointer (some ⟨mb,0,none⟩)] wr fun e w'=>e=.returned (.agg #[.int .i64 0,.string ⟨#[]⟩,.int .i64 0])/\((∃m' TW PO rp3 r3,m'.ag=a1/\Mt B mb ⟨aY,bG,sp.name,cu,kD,kE⟩ TW PO rp3 r3 m' w'/\∀k,Ob TW PO rp3 r3 k->Ob qf qh rp r k\/wr.heap.size<=k)\/(∃TW PO,Mz B mb ⟨aY,bG,sp.name,cu,kD,kE⟩ TW PO a1 w'/\∀k,PO.ob=some k->Ob qf qh rp r k))/\Fr (fun k=>Ob qf qh rp r k\/k=mb) wr w'):=HST.out
      clear HST
      go_wp2_with (go_at_call 18;refine acg.out.mono ?_;rintro e w5 ⟨rfl,hq,cK⟩;have HQ:=hide hq;have aX:=hide cK;clear hq cK)
      have hr1:=HSR.out.go (.inl rfl);have hp1:a1.pg=m.ag.pg:=HSR.out.pg;refine⟨⟨k+1,by omega,by go_num,?_⟩,by simp[intOf];omega⟩
      have Iu:Fr (fun j=>B<=j\/j=mb) wc (w5.alloc (.cells #[.int .i64 0,.string ⟨#[]⟩,.int .i64 0] 39)):=(fV.out.trans (aX.out.mono (fun j _ e=>e.imp (fun e=>(Px.out.ob e).1) id))).alloc _;rcases HQ.out with⟨m',AB,uu,rp',r',hag,hmt,-⟩|⟨AB,uu,hmz,-⟩
      ·exact⟨m',AB,uu,rp',r',hmt.new ((Fr.refl _ _).alloc _),by rw[hag];exact hr1,by rw[hag];exact TV.out,by
        have h1:=congrArg Ag.pg hag;have h2:m'.pg=a1.pg:=h1;rw[h2,hp1];exact VY.out,Iu⟩
      ·exfalso
       obtain⟨pre1,f1,R1⟩:=qz hr1;have h1:=R1.fr;rw[hmz.e] at h1;simp at h1
     ·rw[if_neg Ah] at hrun;have hkb:(ev.k==0)=false:=by simpa using Ah
      have TV:=hide hrun;have uF:Hid (∀w5,((∃m' TW PO rp3 r3,m'.ag=a1/\Mt B mb ⟨aY,bG,sp.name,cu,kD,kE⟩ TW PO rp3 r3 m' w5/\∀k,Ob TW PO rp3 r3 k->Ob qf qh rp r k\/wr.heap.size<=k)\/(∃TW PO,Mz B mb ⟨aY,bG,sp.name,cu,kD,kE⟩ TW PO a1 w5/\∀k,PO.ob=some k->Ob qf qh rp r k))->∃Dp vO,∀w',Fr (fun j=>j=w.heap.size+2\/j=w.heap.size+3) w5 w'->((w'.cell? ⟨mb,0,none⟩=some (.int .i64 a1.id)/\w'.cell? ⟨mb,1,none⟩=some (.int .i64 a1.bu)/\w'.cell? ⟨mb,2,none⟩=some (.slice aY.a aY.n aY.c)/\w'.cell? ⟨mb,3,none⟩=some (.slice bG.a bG.n bG.c)/\w'.cell? ⟨mb,4,none⟩=some (.slice Dp.a Dp.n Dp.c))/\(w'.cell? ⟨mb,5,none⟩=some (.slice vO.a vO.n vO.c)/\w'.cell? ⟨mb,6,none⟩=some (.int .i64 a1.fuel)/\w'.cell? ⟨mb,7,none⟩=some (.int .i64 a1.cells)/\w'.cell? ⟨mb,8,none⟩=some (.int .i64 a1.hops)))/\(iq w' aY bG a1.pg->iK w' aY bG Dp vO a1)):=fun w5 hq=>by
       rcases hq with⟨m',AB,uu,rp',r',hag,hmt,-⟩|⟨AB,uu,hmz,-⟩
       ·refine⟨AB,uu,fun w' hf=>?_⟩
        have hm':¬(mb=w.heap.size+2\/mb=w.heap.size+3):=by rintro(e|e)<;>omega
        have hB':∀k,B<=k->¬(k=w.heap.size+2\/k=w.heap.size+3):=fun j hj e=>by rcases e with e|e<;>omega
        have h':=hmt.keep hf hm' (fun j hj=>hB' j (hmt.ob hj).1);subst hag;exact⟨⟨⟨h'.c0,h'.c1,h'.c2,h'.c3,h'.c4⟩,h'.c5,h'.c6,h'.c7,h'.c8⟩,fun hp=>hmt.MG hf hm' hB' hp⟩
       ·refine⟨⟨AB.a,0,AB.c⟩,uu,fun w' hf=>?_⟩
        have hm':¬(mb=w.heap.size+2\/mb=w.heap.size+3):=by rintro(e|e)<;>omega
        have hB':∀k,B<=k->¬(k=w.heap.size+2\/k=w.heap.size+3):=fun j hj e=>by rcases e with e|e<;>omega
        have h':=hmz.fr hf hm' (fun b e=>hB' b (hmz.hp.lt e).1);exact⟨⟨⟨h'.c0,h'.c1,h'.c2,h'.c3,h'.c4⟩,h'.c5,h'.c6,h'.c7,h'.c8⟩,fun hp=>hmz.MG hf hm' hB' hp⟩
      clear hMt iT Ay VX hRk hst hsr PN hrun hse Ah
      go_wp2_with (go_at_call 18;refine HST.out.mono ?_;rintro e w5 ⟨rfl,hq,cK⟩;have HQ:=hide hq;have aX:=hide cK;clear hq cK)
      obtain⟨Dp,vO,hE⟩:=uF.out w5 HQ.out;have HE:=hide hE;have FE:Fr nothing w5 (w5.alloc (.cells #[.int .i64 ev.k,.string (bs ev.t),.int .i64 ev.e] 39)):=(Fr.refl _ _).alloc _;have mE:=af (Fr.refl nothing (w5.alloc (.cells #[.int .i64 ev.k,.string (bs ev.t),.int .i64 ev.e] 39))) id;have hsz5:=aX.out.size;have aaz:=(Y6.out wr fV.out).size;have aaA:=((Y6.out wr fV.out).trans (aX.out.mono (S':=fun j=>w.heap.size+4<=j) (fun j _ e=>by rcases e with e|e;(have:=(Px.out.ob e).1;omega);omega))).trans (FE.mono (S':=fun j=>w.heap.size+4<=j) (fun _ _ e=>e.elim))
      have aaB:=(fV.out.trans (aX.out.mono (S':=fun j=>B<=j\/j=mb) (fun j _ e=>e.imp (fun e=>(Px.out.ob e).1) id))).trans (FE.mono (fun _ _ e=>e.elim));have PR:=aaA.drew;clear hE;generalize w5.alloc (.cells #[.int .i64 ev.k,.string (bs ev.t),.int .i64 ev.e] 39)=w6 at*;have VZ:Hid (∀w',Fr (fun j=>j=w.heap.size+2\/j=w.heap.size+3) w6 w'->((w'.cell? ⟨mb,0,none⟩=some (.int .i64 a1.id)/\w'.cell? ⟨mb,1,none⟩=some (.int .i64 a1.bu)/\w'.cell? ⟨mb,2,none⟩=some (.slice aY.a aY.n aY.c)/\w'.cell? ⟨mb,3,none⟩=some (.slice bG.a bG.n bG.c)/\w'.cell? ⟨mb,4,none⟩=some (.slice Dp.a Dp.n Dp.c))/\(w'.cell? ⟨mb,5,none⟩=some (.slice vO.a vO.n vO.c)/\w'.cell? ⟨mb,6,none⟩=some (.int .i64 a1.fuel)/\w'.cell? ⟨mb,7,none⟩=some (.int .i64 a1.cells)/\w'.cell? ⟨mb,8,none⟩=some (.int .i64 a1.hops)))/\w'.cell? ⟨w5.heap.size,0,none⟩=some (.int .i64 ev.k)/\w'.cell? ⟨w5.heap.size,1,none⟩=some (.string (bs ev.t))/\w'.cell? ⟨w5.heap.size,2,none⟩=some (.int .i64 ev.e)):=fun w' hf=>by
       have hb:∀j,w'.cell? ⟨w5.heap.size,j,none⟩=_:=fun j=>(hf.cell (p:=⟨w5.heap.size,j,none⟩) mE.2.2 (fun e=>by rcases e with e|e<;>(have e':w5.heap.size=_:=e;omega))).trans (mE.1 j)
       exact⟨(HE.out w' ((FE.mono (fun _ _ e=>e.elim)).trans hf)).1,hb 0,hb 1,hb 2⟩
      go_wp2_with fail
      refine wp_region_held_drew (S:=fun w'=>((w'.cell? ⟨mb,0,none⟩=some (.int .i64 a1.id)/\w'.cell? ⟨mb,1,none⟩=some (.int .i64 a1.bu)/\w'.cell? ⟨mb,2,none⟩=some (.slice aY.a aY.n aY.c)/\w'.cell? ⟨mb,3,none⟩=some (.slice bG.a bG.n bG.c)/\w'.cell? ⟨mb,4,none⟩=some (.slice Dp.a Dp.n Dp.c))/\(w'.cell? ⟨mb,5,none⟩=some (.slice vO.a vO.n vO.c)/\w'.cell? ⟨mb,6,none⟩=some (.int .i64 a1.fuel)/\w'.cell? ⟨mb,7,none⟩=some (.int .i64 a1.cells)/\w'.cell? ⟨mb,8,none⟩=some (.int .i64 a1.hops)))/\w'.cell? ⟨w5.heap.size,0,none⟩=some (.int .i64 ev.k)/\w'.cell? ⟨w5.heap.size,1,none⟩=some (.string (bs ev.t))/\w'.cell? ⟨w5.heap.size,2,none⟩=some (.int .i64 ev.e)) (by kernel_rfl) (VZ.out _ (Fr.refl _ w6).drew) (fun hHeld=>?_)
      have yh:Fr nothing w6 w6.drew:=(Fr.refl nothing w6).drew;have aaC:=aaB.drew;generalize w6.drew=w7 at*;refine tk 0 ?_
      refine tk 1 ?_
      refine tk 2 ?_
      obtain⟨dG,mG,K8,K9,yg⟩:=TT.out w7 PR;have r0:=dG 0;have r1:=dG 1;have r2:=dG 2;have r3:=dG 3;have r4:=dG 4;have r5:=dG 5;have r6:=dG 6;have r7:=dG 7;have r8:=dG 8;have x0:=mG 0;have x1:=mG 1;have x2:=mG 2;have x3:=mG 3;have x4:=mG 4;have x5:=mG 5;have x6:=mG 6;have x7:=mG 7;have x8:=mG 8;obtain⟨w9,h9,cA,cB,gT⟩:=Aw (w:=w7) (b:=w.heap.size+2) (f:=fun i=>oM.getD i (.int .i64 0)) (.int .i64 a1.id) (.int .i64 a1.bu) (.slice aY.a aY.n aY.c) (.slice bG.a bG.n bG.c) (.slice Dp.a Dp.n Dp.c) (.slice vO.a vO.n vO.c) (.int .i64 a1.fuel) (.int .i64 a1.cells) (.int .i64 a1.hops) (fun i hi=>by
       rw[dG i]
       match i,hi with
       |0,_|1,_|2,_|3,_|4,_|5,_|6,_|7,_|8,_=>rfl)
      have s0:=(gT.cell (p:=⟨w.heap.size+3,0,none⟩) yg (fun e=>by have e':w.heap.size+3=w.heap.size+2:=e;omega)).trans (K8 0);have s1:=(gT.cell (p:=⟨w.heap.size+3,1,none⟩) yg (fun e=>by have e':w.heap.size+3=w.heap.size+2:=e;omega)).trans (K8 1)
      have s2:=(gT.cell (p:=⟨w.heap.size+3,2,none⟩) yg (fun e=>by have e':w.heap.size+3=w.heap.size+2:=e;omega)).trans (K8 2);have t0:=(gT.frozen (p:=⟨w.heap.size+3,0,none⟩) yg (fun e=>by have e':w.heap.size+3=w.heap.size+2:=e;omega)).trans (K9 0)
      have t1:=(gT.frozen (p:=⟨w.heap.size+3,1,none⟩) yg (fun e=>by have e':w.heap.size+3=w.heap.size+2:=e;omega)).trans (K9 1);have t2:=(gT.frozen (p:=⟨w.heap.size+3,2,none⟩) yg (fun e=>by have e':w.heap.size+3=w.heap.size+2:=e;omega)).trans (K9 2)
      obtain⟨mW,h10,d0,d1,d2,iY⟩:=WU (w:=w9) (b:=w.heap.size+3) (.int .i64 ev.k) (.string (bs ev.t)) (.int .i64 ev.e) s0 s1 s2;have hl9:=Nat.lt_of_lt_of_le yg gT.size;have kZ:∀j,mW.cell? ⟨w.heap.size+2,j,none⟩=w9.cell? ⟨w.heap.size+2,j,none⟩:=fun j=>iY.cell (p:=⟨w.heap.size+2,j,none⟩) (by show w.heap.size+2<w9.heap.size;omega) (fun e=>by have e':w.heap.size+2=w.heap.size+3:=e;omega)
      have BP:Fr (fun j=>j=w.heap.size+2\/j=w.heap.size+3) w7 mW:=(gT.mono (fun _ _ e=> .inl e)).trans (iY.mono (fun _ _ e=> .inr e));have EM:=hide BP;obtain⟨MI,ND,Py,PE,PG⟩:=cA;obtain⟨PI,PK,PL,PM⟩:=cB;have jw:=hide (And.intro (And.intro ((kZ 0).trans MI) (And.intro ((kZ 1).trans ND) (And.intro ((kZ 2).trans Py) (And.intro ((kZ 3).trans PE) ((kZ 4).trans PG))))) (And.intro (And.intro ((kZ 5).trans PI) (And.intro ((kZ 6).trans PK) (And.intro ((kZ 7).trans PL) ((kZ 8).trans PM)))) (And.intro d0 (And.intro d1 d2))));clear dG mG K8 K9 kZ BP MI ND Py PE PG PI PK PL PM d0 d1 d2;have hfw:Fr nothing w w7:=gX.out.then PR (fun j hj e=>by have e':w.heap.size+4<=j:=e;omega)
      have hpz:iq mW aY bG a.pg:=vC.out mW (((aaC).mono (fun j _ e=> .inr e)).trans (EM.out.mono (fun j _ e=> .inl (by rcases e with e|e<;>omega))));have hS9:=VZ.out w9 ((yh.mono (fun _ _ e=>e.elim)).trans (gT.mono (fun _ _ e=> .inl e)));have XI:=VZ.out mW ((yh.mono (fun _ _ e=>e.elim)).trans EM.out);have hE6:Fr (fun j=>j=w.heap.size+2\/j=w.heap.size+3) w5 mW:=(FE.mono (fun _ _ e=>e.elim)).trans ((yh.mono (fun _ _ e=>e.elim)).trans EM.out);have hp1:a1.pg=a.pg:=(HSR.out.pg).trans VY.out;have uf:=hide ((HE.out mW hE6).2 (by rw[hp1];exact hpz))
      have ni:=hide (hfw.then EM.out (fun j hj e=>by rcases e with e|e<;>omega));clear hfw hpz gT iY aaA PR aaB aaC yh FE mE hE6 hp1;refine iP 3 (fun K hK=>?_)
      go_simp;refine hK _ _ hS9 (fun _=>?_)
      clear hK K
      try simp only[Act.put,sA,sZ,sS]
      refine iP 4 (fun K hK=>?_)
      go_simp;refine hK _ _ XI (fun _=>?_)
      clear hK K
      try simp only[Act.put,sA,sZ,sS]
      refine wpAnyH_done (by kernel_rfl) ?_ _
      go_wp2_with fail
      obtain⟨⟨g0,g1,g2,g3,g4⟩,⟨g5,g6,g7,g8⟩,d0,d1,d2⟩:=jw.out;refine bodyPost_ret (v:=.tuple #[.agg #[.int .i64 a1.id,.int .i64 a1.bu,.slice aY.a aY.n aY.c,.slice bG.a bG.n bG.c,.slice Dp.a Dp.n Dp.c,.slice vO.a vO.n vO.c,.int .i64 a1.fuel,.int .i64 a1.cells,.int .i64 a1.hops],je ⟨ev.k,ev.t,ev.e⟩]) (by simp[results,Tryz.results8,go_sem,g0,g1,g2,g3,g4,g5,g6,g7,g8,d0,d1,d2]) rfl ?_
      rw[<-TV.out];exact⟨aY,bG,Dp,vO,rfl,ni.out,uf.out⟩
   ·have hk0:most.toNat-k=0:=by omega
    rw[hk0] at hrun;have hrun':(m.ag,OX)=rx:=hrun;have Px:=hide hMt;have fV:=hide iT;have TV:=hide hrun';have VY:=hide Ay;obtain⟨⟨k0,k1,k2,k3,k4⟩,⟨k5,k6,k7,k8⟩,cml⟩:=hMt.out;have Ir:=Y6.out wr fV.out;clear hMt iT hrun hrun' Ay VX hRk hk0;obtain⟨dG,mG,K8,K9,yg⟩:=TT.out wr Ir;have r0:=dG 0;have r1:=dG 1;have r2:=dG 2;have r3:=dG 3;have r4:=dG 4;have r5:=dG 5;have r6:=dG 6;have r7:=dG 7;have r8:=dG 8;have x0:=mG 0;have x1:=mG 1;have x2:=mG 2;have x3:=mG 3;have x4:=mG 4;have x5:=mG 5;have x6:=mG 6;have x7:=mG 7;have x8:=mG 8;obtain⟨w9,h9,cA,cB,gT⟩:=Aw (w:=wr) (b:=w.heap.size+2) (f:=fun i=>oM.getD i (.int .i64 0)) (.int .i64 m.ag.id) (.int .i64 m.ag.bu) (.slice aY.a aY.n aY.c) (.slice bG.a bG.n bG.c) (.slice qf.a qf.n qf.c) (.slice qh.a qh.n qh.c) (.int .i64 m.ag.fuel) (.int .i64 m.ag.cells) (.int .i64 m.ag.hops) (fun i hi=>by
     rw[dG i]
     match i,hi with
     |0,_|1,_|2,_|3,_|4,_|5,_|6,_|7,_|8,_=>rfl)
    have s0:=(gT.cell (p:=⟨w.heap.size+3,0,none⟩) yg (fun e=>by have e':w.heap.size+3=w.heap.size+2:=e;omega)).trans (K8 0);have s1:=(gT.cell (p:=⟨w.heap.size+3,1,none⟩) yg (fun e=>by have e':w.heap.size+3=w.heap.size+2:=e;omega)).trans (K8 1)
    have s2:=(gT.cell (p:=⟨w.heap.size+3,2,none⟩) yg (fun e=>by have e':w.heap.size+3=w.heap.size+2:=e;omega)).trans (K8 2);have t0:=(gT.frozen (p:=⟨w.heap.size+3,0,none⟩) yg (fun e=>by have e':w.heap.size+3=w.heap.size+2:=e;omega)).trans (K9 0)
    have t1:=(gT.frozen (p:=⟨w.heap.size+3,1,none⟩) yg (fun e=>by have e':w.heap.size+3=w.heap.size+2:=e;omega)).trans (K9 1);have t2:=(gT.frozen (p:=⟨w.heap.size+3,2,none⟩) yg (fun e=>by have e':w.heap.size+3=w.heap.size+2:=e;omega)).trans (K9 2)
    obtain⟨mW,h10,d0,d1,d2,iY⟩:=WU (w:=w9) (b:=w.heap.size+3) (.int .i64 1) (.string ⟨#[]⟩) (.int .i64 0) s0 s1 s2;have hl9:=Nat.lt_of_lt_of_le yg gT.size;have kZ:∀j,mW.cell? ⟨w.heap.size+2,j,none⟩=w9.cell? ⟨w.heap.size+2,j,none⟩:=fun j=>iY.cell (p:=⟨w.heap.size+2,j,none⟩) (by show w.heap.size+2<w9.heap.size;omega) (fun e=>by have e':w.heap.size+2=w.heap.size+3:=e;omega)
    have BP:Fr (fun j=>j=w.heap.size+2\/j=w.heap.size+3) wr mW:=(gT.mono (fun _ _ e=> .inl e)).trans (iY.mono (fun _ _ e=> .inr e));have EM:=hide BP;obtain⟨MI,ND,Py,PE,PG⟩:=cA;obtain⟨PI,PK,PL,PM⟩:=cB;have jw:=hide (And.intro (And.intro ((kZ 0).trans MI) (And.intro ((kZ 1).trans ND) (And.intro ((kZ 2).trans Py) (And.intro ((kZ 3).trans PE) ((kZ 4).trans PG))))) (And.intro (And.intro ((kZ 5).trans PI) (And.intro ((kZ 6).trans PK) (And.intro ((kZ 7).trans PL) ((kZ 8).trans PM)))) (And.intro d0 (And.intro d1 d2))));clear dG mG K8 K9 kZ BP MI ND Py PE PG PI PK PL PM d0 d1 d2;have hfw:Fr nothing w wr:=gX.out.then Ir (fun j hj e=>by have e':w.heap.size+4<=j:=e;omega)
    have hpz:iq mW aY bG a.pg:=vC.out mW (((fV.out).mono (fun j _ e=> .inr e)).trans (EM.out.mono (fun j _ e=> .inl (by rcases e with e|e<;>omega))));have uf:=hide (Px.out.MG EM.out (by rintro(e|e)<;>omega) (fun j hj e=>by rcases e with e|e<;>omega) (by rw[VY.out];exact hpz))
    have ni:=hide (hfw.then EM.out (fun j hj e=>by rcases e with e|e<;>omega));clear hfw hpz gT iY Ir
    go_wp2_with fail
    obtain⟨⟨g0,g1,g2,g3,g4⟩,⟨g5,g6,g7,g8⟩,d0,d1,d2⟩:=jw.out;refine bodyPost_ret (v:=.tuple #[.agg #[.int .i64 m.ag.id,.int .i64 m.ag.bu,.slice aY.a aY.n aY.c,.slice bG.a bG.n bG.c,.slice qf.a qf.n qf.c,.slice qh.a qh.n qh.c,.int .i64 m.ag.fuel,.int .i64 m.ag.cells,.int .i64 m.ag.hops],je ⟨1,[],0⟩]) (by simp[results,Tryz.results8,go_sem,g0,g1,g2,g3,g4,g5,g6,g7,g8,d0,d1,d2,bs]) rfl ?_
    rw[<-TV.out];exact⟨aY,bG,qf,qh,rfl,ni.out,uf.out⟩
end
end Go.Proofs.YtbcadjgpcfmkfaaGreatDoor
