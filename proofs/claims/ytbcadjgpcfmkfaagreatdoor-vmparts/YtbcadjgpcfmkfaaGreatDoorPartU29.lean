/- ClosS; Expr0; Stmts; Push2; Maps; Kinds. -/
import Derived.Test.YtbcadjgpcfmkfaaGreatDoorPartU28
import Derived.Test.YtbcadjgpcfmkfaaGreatDoorPartU1
import Derived.Test.YtbcadjgpcfmkfaaGreatDoorPartU2
set_option maxHeartbeats 0
set_option maxRecDepth 100000
set_option linter.unusedSimpArgs false
namespace Go.Proofs.YtbcadjgpcfmkfaaGreatDoor
open Go Go.RowKit
section
theorem Yb:(Tryz.prog.info? 136).map (fun i=>(i.zero,i.size,i.bytes))=some (some (.agg #[.int .i64 0,.string ⟨#[]⟩,.slice none 0 0,.slice none 0 0,.slice none 0 0]),5,96):=by kernel_rfl
theorem zH {w:World} {base E n cap g:Nat} {xs:List Value} {a b c d f:Value} (h:w.ownsRow base E 5 (.slice (some ⟨g,0,none⟩) (n+1) cap) (n+1) (xs++ [a,b,c,d,f])) (hx:xs.length=n*5):
 (w.cell? ⟨g,n*5,none⟩=some a/\w.cell? ⟨g,n*5+1,none⟩=some b/\w.cell? ⟨g,n*5+2,none⟩=some c/\w.cell? ⟨g,n*5+3,none⟩=some d/\w.cell? ⟨g,n*5+4,none⟩=some f)/\w.frozen? ⟨g,n*5,none⟩=false/\w.frozen? ⟨g,n*5+1,none⟩=false/\w.frozen? ⟨g,n*5+2,none⟩=false/\w.frozen? ⟨g,n*5+3,none⟩=false/\w.frozen? ⟨g,n*5+4,none⟩=false:=by
 refine⟨⟨?_,?_,?_,?_,?_⟩,h.frozenAt _,h.frozenAt _,h.frozenAt _,h.frozenAt _,h.frozenAt _⟩
 ·rw[h.cellAt _ (by omega)];exact behind (j:=0) hx rfl
 ·rw[h.cellAt _ (by omega)];exact behind (j:=1) hx rfl
 ·rw[h.cellAt _ (by omega)];exact behind (j:=2) hx rfl
 ·rw[h.cellAt _ (by omega)];exact behind (j:=3) hx rfl
 ·rw[h.cellAt _ (by omega)];exact behind (j:=4) hx rfl
set_option maxHeartbeats 1000000 in
set_option maxRecDepth 20000 in
theorem clS (w0:World) (rb:Nat) (w1:World) (bp bd bx:Nat) (deep:Int) (one:Reader St) (acc:List St) (l:Bs) (w:World)
 (hone:∀l w,Pw w0 rb l 0 w->Calls Tryz.prog 69 #[.pointer (some ⟨rb,0,none⟩),.int .i64 (deep)] w (cO sv gy rb w (one l 0)))
 (hless:Less one) (hsmall:Small one) (hd0:0<=deep) (hd1:deep<=100)
 (hcp:w1.cell? ⟨bp,0,none⟩=some (.pointer (some ⟨rb,0,none⟩))) (hcd:w1.cell? ⟨bd,0,none⟩=some (.int .i64 deep)) (hbx:bx<w1.heap.size) (hrb:rb<w1.heap.size)
 (hne:bp≠rb/\bp≠bx/\bd≠rb/\bd≠bx/\bx≠rb) (hw0:w0.heap.size<=bx/\w0.heap.size<=w1.heap.size) (hfz:w1.frozen? ⟨bx,0,none⟩=false)
 (hJ:JL w0 rb 136 5 encS gy w1 bx 0 acc l 0 w):
 Calls Tryz.prog 68 #[.pointer (some ⟨bx,0,none⟩),.pointer (some ⟨bp,0,none⟩),.pointer (some ⟨bd,0,none⟩)] w fun e w'=>e=.returned (.tuple #[])/\JL w0 rb 136 5 encS gy w1 bx 0 (acc++ [(one l 0).v]) (one l 0).l (one l 0).z w':=by
 obtain⟨⟨va,vn,vc⟩,hx3,hrow⟩:=hJ.row;obtain rfl:vn=acc.length:=by
  obtain⟨a,c,h⟩:=hrow.shape;cases h;rfl
 have MP:bp<w1.heap.size:=lt_of_cell hcp;have X8:bd<w1.heap.size:=lt_of_cell hcd;have a1:w.cell? ⟨bp,0,none⟩=some (.pointer (some ⟨rb,0,none⟩)):=(hJ.fr.cell (p:=⟨bp,0,none⟩) MP (by show ¬(bp=rb\/bp=bx);omega)).trans hcp
 have a2:w.cell? ⟨bd,0,none⟩=some (.int .i64 deep):=(hJ.fr.cell (p:=⟨bd,0,none⟩) X8 (by show ¬(bd=rb\/bd=bx);omega)).trans hcd;have hsz1:=hJ.fr.size;have l1:bp<w.heap.size:=by omega
 have l2:bd<w.heap.size:=by omega
 have l3:bx<w.heap.size:=by omega
 have fx:w.frozen? ⟨bx,0,none⟩=false:=(hJ.fz 0).trans hfz;have hacc:acc.length<=1500:=by have:=hJ.le rfl;omega
 have HC:Hid (∀w',Fr nothing w w'->Calls Tryz.prog 69 #[.pointer (some ⟨rb,0,none⟩),.int .i64 (deep)] w' (cO sv gy rb w' (one l 0))):=fun w' hf=>hone l w' (hJ.pw.fr hf id (fun k e=>e.elim))
 have HJ:=hide hJ;have HR:=hide hrow;have HL:Hid ((one l 0).z=0->(one l 0).l.length<l.length):=hless l;have Sy:Hid ((one l 0).l.length<=l.length):=hsmall l 0;have i0:(0:Int)<=(acc.length:Int):=by omega
 have i1:(acc.length:Int)<(acc.length:Int)+1:=by omega
 have i2:(acc.length:Int)<((acc.length+1:Nat):Int):=by omega
 clear hJ hone hcp hcd hrow hless hsmall;have hwr:IntKind.i64.wrap (deep+1)=deep+1:=aO _ (by omega) (by omega);obtain⟨j0,hj0,hy0,hy1,hy2⟩:=info_parts Yb;have frame:∀w',Fr (at_ rb) w w'->w'.cell? ⟨bx,0,none⟩=some (.slice va acc.length vc)/\w'.cell? ⟨bp,0,none⟩=some (.pointer (some ⟨rb,0,none⟩))/\w'.cell? ⟨bd,0,none⟩=some (.int .i64 deep):=fun w' hf=>
  ⟨(hf.cell (p:=⟨bx,0,none⟩) l3 (by show ¬bx=rb;omega)).trans hx3,(hf.cell (p:=⟨bp,0,none⟩) l1 (by show ¬bp=rb;omega)).trans a1,(hf.cell (p:=⟨bd,0,none⟩) l2 (by show ¬bd=rb;omega)).trans a2⟩
 have fV:=hide frame;clear frame
 go_enter Tryz.func68,Tryz.ntmps68
 refine aS (S:=fun w'=>w'.cell? ⟨bx,0,none⟩=some (.slice va acc.length vc)/\w'.cell? ⟨bp,0,none⟩=some (.pointer (some ⟨rb,0,none⟩))/\w'.cell? ⟨bd,0,none⟩=some (.int .i64 deep)) (by kernel_rfl) [6] ?_ (fun hHeld=>?_)
 ·exact⟨hx3,a1,a2⟩
 refine bM 0 ?_
 refine bM 1 ?_
 refine bM 2 ?_
 refine bM 4 ?_
 refine rT [3,5] ?_
 refine cT (fun K hK=>?_) (cT (fun K hK=>?_) aZ.nil)
 ·refine aF rfl 69 Tryz.f69 #[.tmp 4,.tmp 5] #[109,3] rfl Tryz.func69 (by kernel_rfl) (by kernel_rfl) #[.pointer (some ⟨rb,0,none⟩),.int .i64 deep] (by simp[Act.eval]) _ (HC.out _ ((Fr.refl _ w).drew)) ?_
  rintro e w2 ⟨r,rfl,hF2,hP2,hx2⟩;have F2:Fr (at_ rb) w w2:=((Fr.refl _ w).drew).trans hF2;refine⟨_,rfl,hK.out _ _ (fV.out _ F2) ?_⟩
  clear hK K hHeld;have hHeld:=fV.out _ F2
  try simp only[Act.put,sA,sZ,sS]
  refine jN 5 (fun K hK=>?_)
  go_simp;refine hK.out _ _ (fV.out _ (F2.alloc _)) ?_
  clear hK K hHeld;have hHeld:=fV.out _ (F2.alloc (.cells #[.int .i64 0,.string ⟨#[]⟩,.slice none 0 0,.slice none 0 0,.slice none 0 0] 136))
  try simp only[Act.put,sA,sZ,sS]
  have FA:Fr (at_ rb) w (w2.alloc (.cells #[.int .i64 0,.string ⟨#[]⟩,.slice none 0 0,.slice none 0 0,.slice none 0 0] 136)):=F2.alloc _;have PA:Pr rb (one l 0).l (one l 0).z (w2.alloc (.cells #[.int .i64 0,.string ⟨#[]⟩,.slice none 0 0,.slice none 0 0,.slice none 0 0] 136)):=hP2.fr ((Fr.refl nothing w2).alloc _) id;have XA:gy (w2.alloc (.cells #[.int .i64 0,.string ⟨#[]⟩,.slice none 0 0,.slice none 0 0,.slice none 0 0] 136)) (fun k=>w.heap.size<=k/\k<(w2.alloc (.cells #[.int .i64 0,.string ⟨#[]⟩,.slice none 0 0,.slice none 0 0,.slice none 0 0] 136)).heap.size) r (one l 0).v:=aT _ _ nothing _ _ _ _ hx2 ((Fr.refl nothing w2).alloc _) (fun _ _=>id) (fun k hk=>⟨hk.1,by have:=hk.2;simp;omega⟩)
  have NW:∀j u,([.int .i64 0,.string ⟨#[]⟩,.slice none 0 0,.slice none 0 0,.slice none 0 0]:List Value)[j]?=some u->(w2.alloc (.cells #[.int .i64 0,.string ⟨#[]⟩,.slice none 0 0,.slice none 0 0,.slice none 0 0] 136)).cell? ((⟨w2.heap.size,0,none⟩:Addr).add j)=some u:=World.news_of_block (cs:=#[.int .i64 0,.string ⟨#[]⟩,.slice none 0 0,.slice none 0 0,.slice none 0 0]) (t:=136) (fr:=(0,0)) (bW _ _)
  have PW:Pw w0 rb (one l 0).l (one l 0).z (w2.alloc (.cells #[.int .i64 0,.string ⟨#[]⟩,.slice none 0 0,.slice none 0 0,.slice none 0 0] 136)):=HJ.out.pw.of PA Sy.out FA;obtain⟨rs,hown,hbase,iD⟩:=HR.out;have bL:(w2.alloc (.cells #[.int .i64 0,.string ⟨#[]⟩,.slice none 0 0,.slice none 0 0,.slice none 0 0] 136)).ownsRow w1.heap.size 136 5 (.slice va acc.length vc) acc.length (rs.flatMap encS):=aI hown FA (fun k hk e=>by have:=(hown.lt k hk).1;have:k=rb:=e;omega)
  have sQ:w1.heap.size<=(w2.alloc (.cells #[.int .i64 0,.string ⟨#[]⟩,.slice none 0 0,.slice none 0 0,.slice none 0 0] 136)).heap.size:=Nat.le_trans hsz1 FA.size;have OF:=bX bL (b:=bx) hbx;have gx:bx<(w2.alloc (.cells #[.int .i64 0,.string ⟨#[]⟩,.slice none 0 0,.slice none 0 0,.slice none 0 0] 136)).heap.size:=by omega
  have AV:(w2.alloc (.cells #[.int .i64 0,.string ⟨#[]⟩,.slice none 0 0,.slice none 0 0,.slice none 0 0] 136)).frozen? ⟨bx,0,none⟩=false:=(FA.frozen (p:=⟨bx,0,none⟩) l3 (by show ¬bx=rb;omega)).trans fx;have kN:=hide bL;have lC:=hide PW;have zG:=hide XA;have dL:=hide FA;clear iD hown bL PW XA FA PA;refine Al 6 (fun K hK=>?_)
  refine step_append_lies _ (by rfl) (.tmp 3) (.tmp 8) 115 (by rfl) w1.heap.size 136 j0 _ 5 96 Tryz.underlying115 hj0 hy0 hy1 hy2 rfl (by decide) (.slice va acc.length vc) acc.length _ (by simp[Act.eval]) kN.out ⟨w2.heap.size,0,none⟩ 1 1 [.int .i64 0,.string ⟨#[]⟩,.slice none 0 0,.slice none 0 0,.slice none 0 0] (by simp[Act.eval]) rfl NW (by simp[Value.oneCell']) (by decide) (by unfold maxLen;omega) (by omega) sQ _ rfl ?_
  intro g cp w6 dG gJ gL AY;have k3:w6.cell? ⟨bx,0,none⟩=some (.slice va acc.length vc):=(gJ.cell_far ⟨bx,0,none⟩ gx OF).trans hHeld.1;have kz:w6.frozen? ⟨bx,0,none⟩=false:=(gJ.frozen_far ⟨bx,0,none⟩ gx OF).trans AV;have k6:bx<w6.heap.size:=by have:=gJ.size;omega
  obtain⟨⟨q0,q1,q2,q3,q4⟩,y0,y1,y2,y3,y4⟩:=zH dG kN.out.1;have X9:¬g=bx:=by
   rcases gL with h|h
   ·intro e;subst e;exact OF h.symm
   ·omega
  have Ya:¬bx=g:=fun e=>X9 e.symm;have sU:=hide dG;have qd:=hide gJ;have HAT:=hide gL;clear dG gJ gL NW;refine hK.out _ _ ?_
  clear hK K hHeld
  try simp only[Act.put,sA,sZ,sS]
  refine wpAny_take (i:=7) (oi:={dst:=some 10,op:=Op.indexAddr 115 (Operand.tmp 9) (Operand.tmp 7),type:=0,pos:= "ref.go:425",after:=#[{on:=6,ground:=Ground.data},{on:=4,ground:=Ground.data},{on:=0,ground:=Ground.phase},{on:=1,ground:=Ground.phase},{on:=2,ground:=Ground.phase},{on:=3,ground:=Ground.phase},{on:=4,ground:=Ground.phase},{on:=5,ground:=Ground.phase},{on:=6,ground:=Ground.phase},{on:=9,ground:=Ground.gcOnly Departure.appendInPlace}],guard:=none}) (v:=?v5) rfl (by kernel_rfl) (by kernel_rfl) (by kernel_rfl) (fun _ _ _ h=>h) (Or.inl ⟨by rfl,?hy5⟩) ?rest5
  case hy5=>(intro w;go_simp;try with_reducible rfl)
  try simp only[Act.put,sA,sZ,sS]
  refine wpAny_ready (rs:=[8,9]) (by kernel_rfl) (by simp) ?_
  refine AllReady.cons rfl (fun K hK=>?_) (AllReady.cons rfl (fun K hK=>?_) AllReady.nil)
  ·go_simp;refine hK _ _ ?_
   clear hK K
   try simp only[Act.put,sA,sZ,sS]
   refine wpAny_ready (rs:=[9]) (by kernel_rfl) (by simp) ?_
   refine AllReady.cons rfl (fun K hK=>?_) AllReady.nil
   go_simp;refine hK _ _ ?_
   clear hK K
   try simp only[Act.put,sA,sZ,sS]
   refine wpAny_done (by kernel_rfl) ?_ _
   go_end0
   refine⟨rfl,?_⟩
   exact JL.push aT nY hbx hrb hne.2.2.2.2 hw0 (us:=[.int .i64 r.k,.string (bs r.t),.slice r.a.a r.a.n r.a.c,.slice r.x.a r.x.n r.x.c,.slice r.y.a r.y.n r.y.c]) HJ.out HR.out dL.out lC.out zG.out HL.out kN.out sU.out qd.out HAT.out (Nat.le_refl _) rfl rfl k3 (.inl rfl)
  ·go_simp;refine hK _ _ ?_
   clear hK K
   try simp only[Act.put,sA,sZ,sS]
   refine wpAny_ready (rs:=[8]) (by kernel_rfl) (by simp) ?_
   refine AllReady.cons rfl (fun K hK=>?_) AllReady.nil
   go_simp;refine hK _ _ ?_
   clear hK K
   try simp only[Act.put,sA,sZ,sS]
   refine wpAny_done (by kernel_rfl) ?_ _
   go_end0
   refine⟨rfl,?_⟩
   exact JL.push aT nY hbx hrb hne.2.2.2.2 hw0 (us:=[.int .i64 r.k,.string (bs r.t),.slice r.a.a r.a.n r.a.c,.slice r.x.a r.x.n r.x.c,.slice r.y.a r.y.n r.y.c]) HJ.out HR.out dL.out lC.out zG.out HL.out kN.out sU.out qd.out HAT.out (Nat.le_refl _) rfl rfl k3 (.inr (.inl rfl))
 ·go_simp;refine hK.out _ _ (fV.out _ ((Fr.refl _ w).drew.alloc _)) ?_
  clear hK K hHeld;have F1:Fr (at_ rb) w (w.drew.alloc (.cells #[.int .i64 0,.string ⟨#[]⟩,.slice none 0 0,.slice none 0 0,.slice none 0 0] 136)):=(Fr.refl _ w).drew.alloc _;have hHeld:=fV.out _ F1
  try simp only[Act.put,sA,sZ,sS]
  refine jN 3 (fun K hK=>?_)
  refine aF rfl 69 Tryz.f69 #[.tmp 4,.tmp 5] #[109,3] rfl Tryz.func69 (by kernel_rfl) (by kernel_rfl) #[.pointer (some ⟨rb,0,none⟩),.int .i64 deep] (by simp[Act.eval]) _ (HC.out _ ((Fr.refl _ w).drew.alloc _)) ?_
  rintro e w2 ⟨r,rfl,hF2,hP2,hx2⟩;have FA:Fr (at_ rb) w w2:=F1.trans hF2;refine⟨_,rfl,hK.out _ _ (fV.out _ FA) ?_⟩
  clear hK K hHeld;have hHeld:=fV.out _ FA
  try simp only[Act.put,sA,sZ,sS]
  have PA:Pr rb (one l 0).l (one l 0).z w2:=hP2;have XA:gy w2 (fun k=>w.heap.size<=k/\k<w2.heap.size) r (one l 0).v:=aT _ _ nothing _ _ _ _ hx2 (Fr.refl nothing w2) (fun _ _=>id) (fun k hk=>⟨by have:=hk.1;simp at this;omega,hk.2⟩)
  have NW:∀j u,([.int .i64 0,.string ⟨#[]⟩,.slice none 0 0,.slice none 0 0,.slice none 0 0]:List Value)[j]?=some u->w2.cell? ((⟨w.heap.size,0,none⟩:Addr).add j)=some u:=fun j u hu=>by
   have h1:=World.news_of_block (cs:=#[.int .i64 0,.string ⟨#[]⟩,.slice none 0 0,.slice none 0 0,.slice none 0 0]) (t:=136) (fr:=(0,0)) (bW w.drew _) j u hu;rw[add_eq] at h1⊢;exact(hF2.cell (p:=⟨w.heap.size,0+j,none⟩) (by show w.heap.size<_;simp) (by show ¬w.heap.size=rb;omega)).trans h1
  have PW:Pw w0 rb (one l 0).l (one l 0).z w2:=HJ.out.pw.of PA Sy.out FA;obtain⟨rs,hown,hbase,iD⟩:=HR.out;have bL:w2.ownsRow w1.heap.size 136 5 (.slice va acc.length vc) acc.length (rs.flatMap encS):=aI hown FA (fun k hk e=>by have:=(hown.lt k hk).1;have:k=rb:=e;omega)
  have sQ:w1.heap.size<=w2.heap.size:=Nat.le_trans hsz1 FA.size;have OF:=bX bL (b:=bx) hbx;have gx:bx<w2.heap.size:=by omega
  have AV:w2.frozen? ⟨bx,0,none⟩=false:=(FA.frozen (p:=⟨bx,0,none⟩) l3 (by show ¬bx=rb;omega)).trans fx;have kN:=hide bL;have lC:=hide PW;have zG:=hide XA;have dL:=hide FA;clear iD hown bL PW XA FA PA;refine Al 6 (fun K hK=>?_)
  refine step_append_lies _ (by rfl) (.tmp 3) (.tmp 8) 115 (by rfl) w1.heap.size 136 j0 _ 5 96 Tryz.underlying115 hj0 hy0 hy1 hy2 rfl (by decide) (.slice va acc.length vc) acc.length _ (by simp[Act.eval]) kN.out ⟨w.heap.size,0,none⟩ 1 1 [.int .i64 0,.string ⟨#[]⟩,.slice none 0 0,.slice none 0 0,.slice none 0 0] (by simp[Act.eval]) rfl NW (by simp[Value.oneCell']) (by decide) (by unfold maxLen;omega) (by omega) sQ _ rfl ?_
  intro g cp w6 dG gJ gL AY;have k3:w6.cell? ⟨bx,0,none⟩=some (.slice va acc.length vc):=(gJ.cell_far ⟨bx,0,none⟩ gx OF).trans hHeld.1;have kz:w6.frozen? ⟨bx,0,none⟩=false:=(gJ.frozen_far ⟨bx,0,none⟩ gx OF).trans AV;have k6:bx<w6.heap.size:=by have:=gJ.size;omega
  obtain⟨⟨q0,q1,q2,q3,q4⟩,y0,y1,y2,y3,y4⟩:=zH dG kN.out.1;have X9:¬g=bx:=by
   rcases gL with h|h
   ·intro e;subst e;exact OF h.symm
   ·omega
  have Ya:¬bx=g:=fun e=>X9 e.symm;have sU:=hide dG;have qd:=hide gJ;have HAT:=hide gL;clear dG gJ gL NW;refine hK.out _ _ ?_
  clear hK K hHeld
  try simp only[Act.put,sA,sZ,sS]
  refine wpAny_take (i:=7) (oi:={dst:=some 10,op:=Op.indexAddr 115 (Operand.tmp 9) (Operand.tmp 7),type:=0,pos:= "ref.go:425",after:=#[{on:=6,ground:=Ground.data},{on:=4,ground:=Ground.data},{on:=0,ground:=Ground.phase},{on:=1,ground:=Ground.phase},{on:=2,ground:=Ground.phase},{on:=3,ground:=Ground.phase},{on:=4,ground:=Ground.phase},{on:=5,ground:=Ground.phase},{on:=6,ground:=Ground.phase},{on:=9,ground:=Ground.gcOnly Departure.appendInPlace}],guard:=none}) (v:=?v6) rfl (by kernel_rfl) (by kernel_rfl) (by kernel_rfl) (fun _ _ _ h=>h) (Or.inl ⟨by rfl,?hy6⟩) ?rest6
  case hy6=>(intro w;go_simp;try with_reducible rfl)
  try simp only[Act.put,sA,sZ,sS]
  refine wpAny_ready (rs:=[8,9]) (by kernel_rfl) (by simp) ?_
  refine AllReady.cons rfl (fun K hK=>?_) (AllReady.cons rfl (fun K hK=>?_) AllReady.nil)
  ·go_simp;refine hK _ _ ?_
   clear hK K
   try simp only[Act.put,sA,sZ,sS]
   refine wpAny_ready (rs:=[9]) (by kernel_rfl) (by simp) ?_
   refine AllReady.cons rfl (fun K hK=>?_) AllReady.nil
   go_simp;refine hK _ _ ?_
   clear hK K
   try simp only[Act.put,sA,sZ,sS]
   refine wpAny_done (by kernel_rfl) ?_ _
   go_end0
   refine⟨rfl,?_⟩
   exact JL.push aT nY hbx hrb hne.2.2.2.2 hw0 (us:=[.int .i64 r.k,.string (bs r.t),.slice r.a.a r.a.n r.a.c,.slice r.x.a r.x.n r.x.c,.slice r.y.a r.y.n r.y.c]) HJ.out HR.out dL.out lC.out zG.out HL.out kN.out sU.out qd.out HAT.out (Nat.le_refl _) rfl rfl k3 (.inl rfl)
  ·go_simp;refine hK _ _ ?_
   clear hK K
   try simp only[Act.put,sA,sZ,sS]
   refine wpAny_ready (rs:=[8]) (by kernel_rfl) (by simp) ?_
   refine AllReady.cons rfl (fun K hK=>?_) AllReady.nil
   go_simp;refine hK _ _ ?_
   clear hK K
   try simp only[Act.put,sA,sZ,sS]
   refine wpAny_done (by kernel_rfl) ?_ _
   go_end0
   refine⟨rfl,?_⟩
   exact JL.push aT nY hbx hrb hne.2.2.2.2 hw0 (us:=[.int .i64 r.k,.string (bs r.t),.slice r.a.a r.a.n r.a.c,.slice r.x.a r.x.n r.x.c,.slice r.y.a r.y.n r.y.c]) HJ.out HR.out dL.out lC.out zG.out HL.out kN.out sU.out qd.out HAT.out (Nat.le_refl _) rfl rfl k3 (.inr (.inl rfl))
end
section
def bE (n z:Int):Int:=if 10<n then bad z 9 else z
set_option maxHeartbeats 400000 in
theorem dN (rb:Nat) (l:Bs) (z n:Int) (w:World) (h:Pr rb l z w):
 Calls Tryz.prog 79 #[.pointer (some ⟨rb,0,none⟩),.int .i64 n] w fun r w'=>r=.returned (.bool (bE n z==0))/\Pr rb l (bE n z) w'/\Fr (at_ rb) w w':=by
 by_cases hn:10<n
 ·have e:bE n z=bad z 9:=by simp[bE,hn]
  rw[e];have HB:=hide (eT rb l z 9 w h);clear h e
  go_enter Tryz.func79,Tryz.ntmps79
  go_wp2_with (go_at_call 65;refine HB.out.mono ?_;rintro e w2 ⟨rfl,hp,hf⟩;have c1:=hp.e;have hlt:=hp.lt;have HP:=hide hp;have HF:=hide hf;clear hp hf)
  go_ret
  exact⟨rfl,HP.out,HF.out⟩
 ·have e:bE n z=z:=by simp[bE,hn]
  rw[e];have c1:=h.e;have hlt:=h.lt;have HP:=hide h;clear h e
  go_enter Tryz.func79,Tryz.ntmps79
  go_wp2
  go_ret
  exact⟨rfl,HP.out,Fr.refl _ _⟩
theorem Wd {w w':World} {A B C:Array Value} {ta tb tc:TypeId} {S:Nat->Prop} (hf:Fr S (((w.alloc (.cells A ta)).alloc (.cells B tb)).alloc (.cells C tc)) w') (h0:¬S w.heap.size) (h1:¬S (w.heap.size+1)) (h2:¬S (w.heap.size+1+1)):
 (∀j,w'.cell? ⟨w.heap.size,j,none⟩=A[j]?)/\(∀j,w'.cell? ⟨w.heap.size+1,j,none⟩=B[j]?)/\(∀j,w'.cell? ⟨w.heap.size+1+1,j,none⟩=C[j]?)/\(∀j,w'.frozen? ⟨w.heap.size+1+1,j,none⟩=false)/\w.heap.size+1+1<w'.heap.size:=by
 have hz:=hf.size;simp at hz
 have e1:(w.alloc (.cells A ta)).heap.size=w.heap.size+1:=by simp
 have e2:((w.alloc (.cells A ta)).alloc (.cells B tb)).heap.size=w.heap.size+1+1:=by simp
 refine⟨fun j=>?_,fun j=>?_,fun j=>?_,fun j=>?_,by omega⟩
 ·rw[hf.cell (p:=⟨w.heap.size,j,none⟩) (by simp;omega) h0,World.cell?_alloc_past _ _ _ (by simp;omega),World.cell?_alloc_past _ _ _ (by simp),World.cell?_alloc_new]
 ·rw[hf.cell (p:=⟨w.heap.size+1,j,none⟩) (by simp) h1,World.cell?_alloc_past _ _ _ (by simp),<-e1,World.cell?_alloc_new]
 ·rw[hf.cell (p:=⟨w.heap.size+1+1,j,none⟩) (by simp) h2,<-e2,World.cell?_alloc_new]
 ·rw[hf.frozen (p:=⟨w.heap.size+1+1,j,none⟩) (by simp) h2,<-e2,World.frozen?_alloc_new]
abbrev lI (w:World) (rb:Nat) (d:Int):World:=((w.alloc (.cells #[.pointer (some ⟨rb,0,none⟩)] 109)).alloc (.cells #[.int .i64 d] 3)).alloc (.cells #[.int .i64 0,.int .i64 0,.string ⟨#[]⟩,.slice none 0 0] 139)
theorem EY {S:Nat->Prop} (w:World) (rb:Nat) (d:Int):Fr S w (lI w rb d):=(((Fr.refl S w).alloc _).alloc _).alloc _
theorem boxes {w w':World} {rb:Nat} {d:Int} (hrb:rb<w.heap.size) (hf:Fr (at_ rb) (lI w rb d) w'):
 w'.cell? ⟨w.heap.size,0,none⟩=some (.pointer (some ⟨rb,0,none⟩))/\w'.cell? ⟨w.heap.size+1,0,none⟩=some (.int .i64 d)/\
 w'.cell? ⟨w.heap.size+1+1,0,none⟩=some (.int .i64 0)/\w'.cell? ⟨w.heap.size+1+1,1,none⟩=some (.int .i64 0)/\w'.cell? ⟨w.heap.size+1+1,2,none⟩=some (.string ⟨#[]⟩)/\w'.cell? ⟨w.heap.size+1+1,3,none⟩=some (.slice none 0 0)/\
 w'.frozen? ⟨w.heap.size+1+1,0,none⟩=false/\w'.frozen? ⟨w.heap.size+1+1,1,none⟩=false/\w'.frozen? ⟨w.heap.size+1+1,2,none⟩=false/\w'.frozen? ⟨w.heap.size+1+1,3,none⟩=false/\w.heap.size+1+1<w'.heap.size:=by
 obtain⟨h1,h2,h3,h4,h5⟩:=Wd hf (by show ¬w.heap.size=rb;omega) (by show ¬w.heap.size+1=rb;omega) (by show ¬w.heap.size+1+1=rb;omega);exact⟨h1 0,h2 0,h3 0,h3 1,h3 2,h3 3,h4 0,h4 1,h4 2,h4 3,h5⟩
theorem kI {rb:Nat} {w w':World} {d:Int} {res:Rd Ex} {r:rR} (hrb:rb<w.heap.size) (hf:Fr (at_ rb) (lI w rb d) w') (hp:Pr rb res.l res.z w') (hx:bF w' (fun k=>w.heap.size+1+1<k/\k<w'.heap.size) r res.v) (u0 u1 u2 u3:Value):
 cO ev bF rb w res (.returned (ev r)) ((((w'.setCell ⟨w.heap.size+1+1,0,none⟩ u0).setCell ⟨w.heap.size+1+1,1,none⟩ u1).setCell ⟨w.heap.size+1+1,2,none⟩ u2).setCell ⟨w.heap.size+1+1,3,none⟩ u3):=by
 have iI:Fr (fun k=>k=w.heap.size+1+1) w' ((((w'.setCell ⟨w.heap.size+1+1,0,none⟩ u0).setCell ⟨w.heap.size+1+1,1,none⟩ u1).setCell ⟨w.heap.size+1+1,2,none⟩ u2).setCell ⟨w.heap.size+1+1,3,none⟩ u3):=Fr.dP (us:=[u0,u1,u2,u3]) (o:=0) (g:=w.heap.size+1+1) (Fr.refl _ w') (.inl rfl);refine⟨r,rfl,((EY w rb d).trans hf).then iI (fun j hj e=>by omega),hp.fr iI (by omega),av _ _ _ _ _ _ _ hx iI (fun k hk e=>by omega) (fun k hk=>⟨by omega,Nat.lt_of_lt_of_le hk.2 iI.size⟩)⟩
set_option maxHeartbeats 400000 in
set_option maxRecDepth 20000 in
theorem EZ (rb:Nat) (l:Bs) (z d:Int) (w:World) (h:Pr rb l z w) (hz:bE d z≠0):
 Calls Tryz.prog 80 #[.pointer (some ⟨rb,0,none⟩),.int .i64 d] w (cO ev bF rb w ⟨ZG,l,bE d z⟩):=by
 have HD:=hide (dN rb l z d _ (h.fr (EY w rb d) (S:=nothing) id));have hrb:=h.lt;have hz':(bE d z==0)=false:=by simpa using hz
 rw[hz'] at HD;clear h hz'
 go_enter Tryz.func80,Tryz.ntmps80
 go_wp2_with (go_at_call 79;refine HD.out.mono ?_;rintro e w2 ⟨rfl,hp,hf⟩;obtain⟨b0,b1,c0,c1,c2,c3,f0,f1,f2,f3,hlt⟩:=boxes hrb hf;have HP:=hide hp;have HF:=hide hf;clear hp hf)
 refine bodyPost_ret (v:=ev ⟨0,0,[],aN⟩) (by simp[results,Tryz.results80,go_sem,c0,c1,c2,c3,bs]) rfl ?_
 exact kI (res:=⟨ZG,l,bE d z⟩) hrb HF.out HP.out (jD _ _ _ _ _) _ _ _ _
end
section
def vF (rb:Nat) (w:World) (res:Rd (List St)) (e:Ending) (w':World):Prop:=
 ∃s:ai,e=.returned (.slice s.a s.n s.c)/\Fr (at_ rb) w w'/\Pr rb res.l res.z w'/\s.n=res.v.length/\∃rs,Sl encS 5 w' s.v rs/\(∀b,s.v.ownBlock=some b->w.heap.size<=b/\b<w'.heap.size)/\Each (gy w' (fun k=>w.heap.size<=k/\k<w'.heap.size)) rs res.v
set_option maxHeartbeats 400000 in
set_option maxRecDepth 20000 in
theorem BZ (w0:World) (rb:Nat) (d:Int) (one:Reader St) (N:Nat) (hN:1502<=N) (hless:Less one) (hsmall:Small one) (hd0:0<=d) (hd:d<=100)
 (hone:∀l w,Pw w0 rb l 0 w->Calls Tryz.prog 69 #[.pointer (some ⟨rb,0,none⟩),.int .i64 d] w (cO sv gy rb w (one l 0)))
 (l:Bs) (z:Int) (w:World) (h:Pw w0 rb l z w):
 Calls Tryz.prog 58 #[.pointer (some ⟨rb,0,none⟩),.int .i64 d] w (vF rb w (aB one N l z)):=by
 have hrb:=h.pr.lt;have hge:=h.ge;have tO:Fr nothing w (((w.alloc (.cells #[.pointer (some ⟨rb,0,none⟩)] 109)).alloc (.cells #[.int .i64 d] 3)).alloc (.cells #[.slice none 0 0] 115)):=(((Fr.refl _ w).alloc _).alloc _).alloc _;have hm:=Wd (Fr.refl nothing (((w.alloc (.cells #[.pointer (some ⟨rb,0,none⟩)] 109)).alloc (.cells #[.int .i64 d] 3)).alloc (.cells #[.slice none 0 0] 115))) id id id;have hP3:=h.fr tO id (fun k e=>e.elim);generalize hw1:(((w.alloc (.cells #[.pointer (some ⟨rb,0,none⟩)] 109)).alloc (.cells #[.int .i64 d] 3)).alloc (.cells #[.slice none 0 0] 115))=w1 at tO hm hP3;obtain⟨m1,m2,m3,m4,m5⟩:=hm;have hJ0:JL w0 rb 136 5 encS gy w1 (w.heap.size+1+1) 0 [] l z w1:=
  {pw:=hP3,fr:=Fr.refl _ _,fz:=fun _=>rfl,old:=fun _ _=>rfl,le:=fun _=>by have:=hP3.len;simpa using this,row:=⟨aN,m3 0,Row.nil _ (Nat.le_refl _)⟩}
 have qX:=hP3.vE.size;have hww:=h.vE.size;have oP:=hP3.pr.lt;have hne:w.heap.size≠rb/\w.heap.size≠w.heap.size+1+1/\w.heap.size+1≠rb/\w.heap.size+1≠w.heap.size+1+1/\w.heap.size+1+1≠rb:=⟨by omega,by omega,by omega,by omega,by omega⟩;have hU:=Ug rb _ _ _ one (JL w0 rb 136 5 encS gy w1 (w.heap.size+1+1) 0) hless hsmall (fun acc l z w h=>⟨h.pw.pr,h.pw.len⟩)
  (fun acc l l' z z' w' w'' h hp hl hz hf=>h.move aT m5 oP hne.2.2.2.2 hp hl hz hf)
  (fun acc l w' h=>clS w0 rb w1 w.heap.size (w.heap.size+1) (w.heap.size+1+1) d one acc l w' hone hless hsmall hd0 hd (m1 0) (m2 0) m5 oP hne ⟨by omega,qX⟩ (m4 0) h)
  N [] l z w1 hJ0 (by omega) (fun _=>by have:=hP3.len;omega)
 simp only[List.nil_append] at hU;subst hw1;have HU:=hide hU;have dX:=hide tO;generalize aB one N l z=q at*;clear hU hJ0 hP3 h hone m1 m2 m3 m4 m5 tO
 go_enter Tryz.func58,Tryz.ntmps58
 go_wp2_with (go_at_call 56;refine HU.out.mono ?_;rintro e w9 ⟨rfl,hj⟩;obtain⟨⟨sa,sn,sc⟩,hc3,hrow⟩:=hj.row;obtain rfl:sn=q.v.length:=(by obtain⟨a,c,h⟩:=hrow.shape;cases h;rfl);have rE:w.heap.size+1+1<w9.heap.size:=(by have:=hj.fr.size;simp at this;omega);have Ca:=hide hj;have HR:=hide hrow;clear hj hrow)
 go_ret
 obtain⟨rs,k1,k2,k3⟩:=HR.out.done aT nY (B:=w.heap.size) (by simp;omega);refine⟨⟨sa,q.v.length,sc⟩,rfl,dX.out.mono (fun _ _ e=>e.elim)|>.then Ca.out.fr (fun j hj e=>?_),Ca.out.pw.pr,rfl,rs,k1,k2,k3⟩
 rcases e with e|e
 ·exact e
 ·omega
end
section
section
variable {ρ α : Type} {w0 : World} {rb E sz : Nat} {enc : ρ → List Value} {ok : World → (Nat → Prop) → ρ → α → Prop} {w1 : World} {bx off : Nat}
theorem JL.Cb (hst:kV ok) (hlen:∀r,(enc r).length=sz) (hbx:bx<w1.heap.size) (hrb:rb<w1.heap.size) (hne:bx≠rb) (hw0:w0.heap.size<=bx/\w0.heap.size<=w1.heap.size) {acc:List α} {l l':Bs} {z z':Int} {w wA w6 w9:World} {s:ai} {g cp H:Nat} {r:ρ} {x:α} {xs zs us:List Value} (h:JL w0 rb E sz enc ok w1 bx off acc l z w)
 (hrow:Row E sz enc ok w1.heap.size s.v acc w) (hF:Fr (at_ rb) w wA) (hpA:Pw w0 rb l' z' wA) (hx:ok wA (fun k=>w.heap.size<=k/\k<wA.heap.size) r x) (hle:z'=0->acc.length+1+l'.length<=1500)
 (hxs:wA.ownsRow w1.heap.size E sz s.v acc.length xs) (dG:w6.ownsRow w1.heap.size E sz (.slice (some ⟨g,0,none⟩) (acc.length+1) cp) (acc.length+1) (xs++zs)) (gJ:wA.grownBy w6 s.v.ownBlock) (hat:s.v.ownBlock=some g\/g=H) (hH:wA.heap.size<=H)
 (hzs:zs.length=sz) (hus:us=enc r) (X5:w6.cell? ⟨bx,off,none⟩=some s.v)
 (h9:w9=(dP w6 g (acc.length*sz) us).setCell ⟨bx,off,none⟩ (.slice (some ⟨g,0,none⟩) (acc.length+1) cp)\/w9=dP (w6.setCell ⟨bx,off,none⟩ (.slice (some ⟨g,0,none⟩) (acc.length+1) cp)) g (acc.length*sz) us\/(zs=us/\w9=w6.setCell ⟨bx,off,none⟩ (.slice (some ⟨g,0,none⟩) (acc.length+1) cp))):
 JL w0 rb E sz enc ok w1 bx off (acc++ [x]) l' z' w9:=by
 subst hus;have hsz:=h.fr.size;have hszA:=hF.size;have jA:∀k,s.v.ownBlock=some k->w1.heap.size<=k/\k<wA.heap.size:=hxs.lt
 have hgb:g≠bx:=by
  rcases hat with e|e
  ·have:=(jA g e).1;omega
  ·omega
 have hgr:g≠rb:=by
  rcases hat with e|e
  ·have:=(jA g e).1;omega
  ·omega
 have hat':s.v.ownBlock=some g\/wA.heap.size<=g:=by
  rcases hat with e|e
  ·exact .inl e
  ·exact .inr (by omega)
 have F6:Fr (fun k=>k=bx\/s.v.ownBlock=some k) wA w6:=(Fr.refl _ wA).grown gJ (fun k hk=> .inl (.inr hk));have hgS:(g=bx\/s.v.ownBlock=some g)\/wA.heap.size<=g:=hat'.imp .inr id;have QD:Fr (fun k=>k=bx\/s.v.ownBlock=some k) wA w9:=by
  rcases h9 with rfl|rfl|⟨hzu,rfl⟩
  ·exact(F6.dP hgS).setCell (p:=⟨bx,off,none⟩) (.inl (.inl rfl)) _
  ·exact Fr.dP (F6.setCell (p:=⟨bx,off,none⟩) (.inl (.inl rfl)) _) hgS
  ·exact F6.setCell (p:=⟨bx,off,none⟩) (.inl (.inl rfl)) _
 have hbS:∀(wa:World) (cs:List Value),wa.ownsRow w1.heap.size E sz (.slice (some ⟨g,0,none⟩) (acc.length+1) cp) (acc.length+1) cs->(wa.setCell ⟨bx,off,none⟩ (.slice (some ⟨g,0,none⟩) (acc.length+1) cp)).ownsRow w1.heap.size E sz (.slice (some ⟨g,0,none⟩) (acc.length+1) cp) (acc.length+1) cs:=fun wa cs hh=>
  aI hh (Fr.setCell (Fr.refl (fun k=>k=bx) wa) (p:=⟨bx,off,none⟩) (.inl rfl) _) (fun k hk e=>by
   have:g=k:=by simpa[Value.ownBlock] using hk
   omega)
 have hend:uK (xs++zs) (acc.length*sz) (enc r)=xs++enc r:=by
  have:=qV (enc r) xs zs (by rw[hzs,hlen])
  rwa [hxs.1] at this
 have X6:w9.ownsRow w1.heap.size E sz (.slice (some ⟨g,0,none⟩) (acc.length+1) cp) (acc.length+1) (xs++enc r):=by
  rcases h9 with rfl|rfl|⟨hzu,rfl⟩
  ·have:=lu (us:=enc r) (o:=acc.length*sz) dG;rw[hend] at this;exact hbS _ _ this
  ·have:=lu (us:=enc r) (o:=acc.length*sz) (hbS _ _ dG);rw[hend] at this;exact this
  ·rw[hzu] at dG;exact hbS _ _ dG
 have hcell:w9.cell? ⟨bx,off,none⟩=some (.slice (some ⟨g,0,none⟩) (acc.length+1) cp):=by
  rcases h9 with rfl|rfl|⟨hzu,rfl⟩
  ·exact World.cell?_setCell_same _ _ _ (by rw[gV hgb];exact X5)
  ·rw[gV hgb];exact World.cell?_setCell_same _ _ _ X5
  ·exact World.cell?_setCell_same _ _ _ X5
 have QE:some bx≠s.v.ownBlock:=fun e=>by have:=(jA bx e.symm).1;omega
 have JU:∀j,j≠off->w9.cell? ⟨bx,j,none⟩=w6.cell? ⟨bx,j,none⟩:=fun j hj=>by
  rcases h9 with rfl|rfl|⟨hzu,rfl⟩
  ·rw[World.cell?_setCell_other _ ⟨bx,off,none⟩ ⟨bx,j,none⟩ _ (fun e=>hj (by cases e;rfl)),gV hgb]
  ·rw[gV hgb,World.cell?_setCell_other _ ⟨bx,off,none⟩ ⟨bx,j,none⟩ _ (fun e=>hj (by cases e;rfl))]
  ·rw[World.cell?_setCell_other _ ⟨bx,off,none⟩ ⟨bx,j,none⟩ _ (fun e=>hj (by cases e;rfl))]
 have X7:∀j,w9.frozen? ⟨bx,j,none⟩=w6.frozen? ⟨bx,j,none⟩:=fun j=>by
  rcases h9 with rfl|rfl|⟨hzu,rfl⟩
  ·rw[World.frozen?_setCell,iC]
  ·rw[iC,World.frozen?_setCell]
  ·rw[World.frozen?_setCell]
 have sQ:bx<wA.heap.size:=by omega
 exact{
  pw:=hpA.fr QD (fun e=>by
   rcases e with e|e
   ·exact hne e.symm
   ·have:=(jA rb e).1;omega) (fun k e=>by
   rcases e with e|e
   ·omega
   ·have:=(jA k e).1;omega)
  fr:=(h.fr.trans (hF.mono (fun k _ e=> .inl e))).then QD (fun j hj e=>by
   rcases e with e|e
   ·exact .inr e
   ·have:=(jA j e).1;omega)
  fz:=fun j=>(X7 j).trans ((gJ.frozen_far ⟨bx,j,none⟩ sQ QE).trans ((hF.frozen (p:=⟨bx,j,none⟩) (by show bx<_;omega) hne).trans (h.fz j)))
  old:=fun j hj=>(JU j hj).trans ((gJ.cell_far ⟨bx,j,none⟩ sQ QE).trans ((hF.cell (p:=⟨bx,j,none⟩) (by show bx<_;omega) hne).trans (h.old j hj)))
  le:=fun h0=>by have:=hle h0;simp;omega
  row:=⟨⟨some ⟨g,0,none⟩,acc.length+1,cp⟩,hcell,hrow.push hst hF (fun k e=>by show k<_;have:k=rb:=e;omega) (Nat.le_refl _) hx QD (fun k e=>by
   rcases e with e|e
   ·exact .inl (by omega)
   ·exact .inr e) (fun rs hrs=>by
   have h2:wA.ownsRow w1.heap.size E sz s.v acc.length (rs.flatMap enc):=aI hrs hF (fun k hk e=>by have:=(hrs.lt k hk).1;have:k=rb:=e;omega);have:rs.flatMap enc=xs:=uj h2 hxs;rw[this];exact X6) (by
   rcases hat' with e|e
   ·exact .inl e.symm
   ·exact .inr ⟨g,rfl,e⟩)⟩}
end
end
section
structure dQ where
 f:Bs->Option Int
 n:Nat
def dQ.empty:dQ:=⟨fun _=>none,0⟩
def dQ.put (A:dQ) (k:Bs) (v:Int):dQ:=⟨fun x=>if x=k then some v else A.f x,if(A.f k).isSome then A.n else A.n+1⟩
def dQ.del (A:dQ) (k:Bs):dQ:=⟨fun x=>if x=k then none else A.f x,if(A.f k).isSome then A.n-1 else A.n⟩
theorem JV:Maps.Keyed Tryz.prog 9:=Maps.string_keyed Tryz.underlying9
theorem Eb (w:World):(zeroValue 3).run Tryz.prog w=.ok (.int .i64 0) w:=by kernel_rfl
theorem aaJ (k:Bs) (hk:k.length<=100000):keyOf Tryz.prog 9 (.string (bs k))=some (.string k):=WideMaps.keyOf_string_mk Tryz.underlying9 (s:=bs k) (by rw[dz];unfold maxLen;omega)
def SI (b:Nat) (A:dQ) (w:World):Prop:=
 ∃D:DataW Unit,w.ownsMap Tryz.prog 9 (plainElem Tryz.prog 3) b A.n D/\(∀k,D.atKey (.string k) (.lit (.int .i64 0))=.lit (.int .i64 ((A.f k).getD 0)))/\(∀k,Maps.has D (.string k)=(A.f k).isSome)/\Maps.size D=A.n
theorem SI.lt {b:Nat} {A:dQ} {w:World} (h:SI b A w):b<w.heap.size:=by
 obtain⟨D,h1,_⟩:=h;exact World.ownsMap.lt h1
theorem E5 {P:Program} {k:TypeId} {R:Value->Option (DataW Unit×List MemPlace)} {b n:Nat} {D:DataW Unit} {w w':World} {S:Nat->Prop} (h:w.ownsMap P k R b n D) (hf:Fr S w w') (hs:¬S b):w'.ownsMap P k R b n D:=by
 have hlt:=World.ownsMap.lt h;obtain⟨es,clock,hb,F,hz,hD⟩:=h;exact⟨es,clock,(hf.block b hlt hs).trans hb,F,hz,hD⟩
theorem oQ {P:Program} {k:TypeId} {R:Value->Option (DataW Unit×List MemPlace)} {b n:Nat} {D:DataW Unit} {w:World} (h:w.ownsMap P k R b n D):w.ownsMap P k R b (Maps.size D) D:=by
 obtain⟨es,clock,hb,F,hz,rfl⟩:=h;exact⟨es,clock,hb,F,by simp[Maps.size,length_sorted],rfl⟩
theorem SI.fr {b:Nat} {A:dQ} {w w':World} {S:Nat->Prop} (h:SI b A w) (hf:Fr S w w') (hs:¬S b):SI b A w':=by
 obtain⟨D,h1,h2⟩:=h;exact⟨D,E5 h1 hf hs,h2⟩
theorem SI.made (w:World):SI w.heap.size dQ.empty (w.alloc (.map #[] 0)):=
 ⟨.map [],World.ownsMap_made w Tryz.prog 9 _,fun _=>rfl,fun _=>rfl,rfl⟩
theorem SI.look {b:Nat} {A:dQ} {w:World} (h:SI b A w) (k:Bs) (hk:k.length<=100000):(Instr.lookup 123 (.map (some b)) (.string (bs k)) false).run Tryz.prog w=.ok (.int .i64 ((A.f k).getD 0)) w:=by
 obtain⟨D,h1,h2,_⟩:=h;obtain⟨c,hrun,hat,_⟩:=h1.lookup_int JV Tryz.underlying123 Tryz.underlying3 (Eb w) (aaJ k hk);rw[h2] at hat;simp only[DataW.lit.injEq,Lit.int.injEq,true_and] at hat;rw[hrun,hat]
theorem zI {P:Program} {k:TypeId} {R:Value->Option (DataW Unit×List MemPlace)} {b n:Nat} {D:DataW Unit} {w:World} (h:w.ownsMap P k R b n D):Maps.IsMap D:=World.ownsMap.isMap h
theorem SI.store {b:Nat} {A:dQ} {w:World} (h:SI b A w) (k:Bs) (hk:k.length<=100000) (v:Int) (hn:A.n<=100000) (h0:-9223372036854775808<=v) (h1:v<=9223372036854775807):
 ∃w',(Instr.mapUpdate 123 (.map (some b)) (.string (bs k)) (.int .i64 v)).run Tryz.prog w=.ok () w'/\SI b (A.put k v) w'/\Fr (fun j=>j=b) w w':=by
 obtain⟨D,g1,g2,g3,g4⟩:=h;have hw:(Lit.int .i64 v).wf=true:=by simp[Lit.wf,IntKind.min,IntKind.max,IntKind.signed,IntKind.bits];omega
 obtain⟨w',hrun,ho,hg⟩:=g1.update JV Tryz.underlying123 (by unfold maxLen;omega) (aaJ k hk) (plainElem_int Tryz.underlying3 hw);have hmap:=zI g1;have hkey:WideAt.IsKeyLit (.string k):=by trivial
 have htd:=World.ownsMap.tidy g1 JV;have hsz:Maps.size (D.put (.string k) (.lit (.int .i64 v)))=(A.put k v).n:=by
  rw[Maps.size_put htd,g3,g4];rfl
 refine⟨w',hrun,⟨D.put (.string k) (.lit (.int .i64 v)),?_,fun x=>?_,fun x=>?_,hsz⟩,(Fr.refl _ w).grown hg (fun j hj=> .inl (by simpa using hj.symm))⟩
 ·rw[<-hsz];exact oQ ho
 ·by_cases hx:x=k
  ·subst hx;rw[Maps.atKey_put_same hmap hkey];simp[dQ.put]
  ·rw[Maps.atKey_put_other (by intro e;exact hx (by cases e;rfl)),g2];simp[dQ.put,hx]
 ·by_cases hx:x=k
  ·subst hx;rw[Maps.has_put_same hmap hkey];simp[dQ.put]
  ·rw[Maps.has_put_other (by intro e;exact hx (by cases e;rfl)),g3];simp[dQ.put,hx]
end
section
def JW:dQ:=((((((((dQ.empty.put [108,101,116] 1).put [115,101,116] 2).put [105,102] 3).put [119,104,105,108,101] 4).put [115,97,121] 5).put [114,101,116,117,114,110] 6).put [112,117,116,108] 7).put [112,117,116,114] 8).put [100,111] 9
theorem MQ (v:Bs):(JW.f v).getD 0=(kindOf v:Int):=by
 by_cases h0:v=[108,101,116]
 ·subst h0;rfl
 by_cases h1:v=[115,101,116]
 ·subst h1;rfl
 by_cases h2:v=[105,102]
 ·subst h2;rfl
 by_cases h3:v=[119,104,105,108,101]
 ·subst h3;rfl
 by_cases h4:v=[115,97,121]
 ·subst h4;rfl
 by_cases h5:v=[114,101,116,117,114,110]
 ·subst h5;rfl
 by_cases h6:v=[112,117,116,108]
 ·subst h6;rfl
 by_cases h7:v=[112,117,116,114]
 ·subst h7;rfl
 by_cases h8:v=[100,111]
 ·subst h8;rfl
 have e:kindOf v=0:=by
  unfold kindOf;rw[if_neg h0,if_neg h1,if_neg h2,if_neg h3,if_neg h4,if_neg h5,if_neg h6,if_neg h7,if_neg h8]
 rw[e];simp[JW,dQ.put,dQ.empty,h0,h1,h2,h3,h4,h5,h6,h7,h8]
theorem jZ (w:World) (v:Bs) (hv:v.length<=1500):∃m1 m2 m3 m4 m5 m6 m7 m8 m9:World,
 (Instr.mapUpdate 123 (.map (some w.heap.size)) (.string ⟨#[108,101,116]⟩) (.int .i64 1)).run Tryz.prog (w.alloc (.map #[] 0))=.ok () m1/\
 (Instr.mapUpdate 123 (.map (some w.heap.size)) (.string ⟨#[115,101,116]⟩) (.int .i64 2)).run Tryz.prog m1=.ok () m2/\
 (Instr.mapUpdate 123 (.map (some w.heap.size)) (.string ⟨#[105,102]⟩) (.int .i64 3)).run Tryz.prog m2=.ok () m3/\
 (Instr.mapUpdate 123 (.map (some w.heap.size)) (.string ⟨#[119,104,105,108,101]⟩) (.int .i64 4)).run Tryz.prog m3=.ok () m4/\
 (Instr.mapUpdate 123 (.map (some w.heap.size)) (.string ⟨#[115,97,121]⟩) (.int .i64 5)).run Tryz.prog m4=.ok () m5/\
 (Instr.mapUpdate 123 (.map (some w.heap.size)) (.string ⟨#[114,101,116,117,114,110]⟩) (.int .i64 6)).run Tryz.prog m5=.ok () m6/\
 (Instr.mapUpdate 123 (.map (some w.heap.size)) (.string ⟨#[112,117,116,108]⟩) (.int .i64 7)).run Tryz.prog m6=.ok () m7/\
 (Instr.mapUpdate 123 (.map (some w.heap.size)) (.string ⟨#[112,117,116,114]⟩) (.int .i64 8)).run Tryz.prog m7=.ok () m8/\
 (Instr.mapUpdate 123 (.map (some w.heap.size)) (.string ⟨#[100,111]⟩) (.int .i64 9)).run Tryz.prog m8=.ok () m9/\
 (Instr.lookup 123 (.map (some w.heap.size)) (.string (bs v)) false).run Tryz.prog m9=.ok (.int .i64 (kindOf v)) m9/\Fr nothing w m9/\w.heap.size<m9.heap.size:=by
 have h0:=SI.made w;have F0:Fr (fun j=>j=w.heap.size) (w.alloc (.map #[] 0)) (w.alloc (.map #[] 0)):=Fr.refl _ _;obtain⟨m1,r1,h1,g1⟩:=h0.store [108,101,116] (by decide) 1 (by decide) (by decide) (by decide);have F1:=F0.trans g1;obtain⟨m2,r2,h2,g2⟩:=h1.store [115,101,116] (by decide) 2 (by decide) (by decide) (by decide);have F2:=F1.trans g2;obtain⟨m3,r3,h3,g3⟩:=h2.store [105,102] (by decide) 3 (by decide) (by decide) (by decide);have F3:=F2.trans g3;obtain⟨m4,r4,h4,g4⟩:=h3.store [119,104,105,108,101] (by decide) 4 (by decide) (by decide) (by decide);have F4:=F3.trans g4;obtain⟨m5,r5,h5,g5⟩:=h4.store [115,97,121] (by decide) 5 (by decide) (by decide) (by decide);have F5:=F4.trans g5;obtain⟨m6,r6,h6,g6⟩:=h5.store [114,101,116,117,114,110] (by decide) 6 (by decide) (by decide) (by decide);have F6:=F5.trans g6;obtain⟨m7,r7,h7,g7⟩:=h6.store [112,117,116,108] (by decide) 7 (by decide) (by decide) (by decide);have F7:=F6.trans g7;obtain⟨m8,r8,h8,g8⟩:=h7.store [112,117,116,114] (by decide) 8 (by decide) (by decide) (by decide);have F8:=F7.trans g8;obtain⟨m9,r9,h9,g9⟩:=h8.store [100,111] (by decide) 9 (by decide) (by decide) (by decide);have F9:=F8.trans g9;have hl:=h9.look v (by omega);rw[show dQ.put _ _ _=JW from rfl,MQ] at hl;refine⟨m1,m2,m3,m4,m5,m6,m7,m8,m9,r1,r2,r3,r4,r5,r6,r7,r8,r9,hl,?_,h9.lt⟩
 exact((Fr.refl nothing w).alloc _).then F9 (fun j hj e=>by omega)
end
end Go.Proofs.YtbcadjgpcfmkfaaGreatDoor
