/- MTell; MGive; MAt. -/
import Derived.Test.YtbcadjgpcfmkfaaGreatDoorPartU16
import Derived.Test.YtbcadjgpcfmkfaaGreatDoorPartU5
import Derived.Test.YtbcadjgpcfmkfaaGreatDoorPartU1
set_option maxHeartbeats 0
set_option maxRecDepth 100000
set_option linter.unusedSimpArgs false
namespace Go.Proofs.YtbcadjgpcfmkfaaGreatDoor
open Go Go.RowKit
section
def sF (v:Val):pG.Val:=⟨v.k,v.n,bs v.t⟩
def Dk (c:aV):pG.aV:=⟨sF c.l,sF c.r⟩
theorem KT (v:Val):Cl.aP (sF v)=aP v:=rfl
theorem KU (c:aV):Cl.bZ (Dk c)=jv c:=rfl
theorem OZ {w:World} {q:ai} {l:List aV} (h:Sl jv 6 w q.v l):Sl Cl.bZ 6 w q.v (l.map Dk):=by
 obtain⟨ao,cap,he,hm,hc⟩:=h;refine⟨ao,cap,by rw[he,List.length_map],by rw[List.length_map];exact hm,fun i x hx=>?_⟩
 rw[List.getElem?_map] at hx;obtain⟨y,hy,rfl⟩:=Option.map_eq_some_iff.1 hx;obtain⟨b,off,e,hb,hcell⟩:=hc i y hy;exact⟨b,off,e,hb,fun j u hu=>hcell j u (by rw[<-KU];exact hu)⟩
theorem Xm {w:World} {q:ai} {l:List Val} (h:Sl aP 3 w q.v l):Sl Cl.aP 3 w q.v (l.map sF):=by
 obtain⟨ao,cap,he,hm,hc⟩:=h;refine⟨ao,cap,by rw[he,List.length_map],by rw[List.length_map];exact hm,fun i x hx=>?_⟩
 rw[List.getElem?_map] at hx;obtain⟨y,hy,rfl⟩:=Option.map_eq_some_iff.1 hx;obtain⟨b,off,e,hb,hcell⟩:=hc i y hy;exact⟨b,off,e,hb,fun j u hu=>hcell j u (by rw[<-KT];exact hu)⟩
theorem Ms (n:Nat) (v:Val):Cl.CG (sF v) n=ah n v:=by
 unfold Cl.CG ah sF;simp only[gY,dz]
theorem Ih {n:Nat} {v:Val} (h:ah n v=0):Cl.okV n (sF v)=true:=by
 unfold Cl.okV;rw[Ms,h];rfl
theorem qM {n:Nat} {v:Val} (h:ah n v=0):(v.k=0/\-1073741824<=v.n/\v.n<=1073741824/\v.t=[])\/(v.k=1/\v.n=0/\v.t.length<=60)\/(v.k=2/\0<=v.n/\v.n<n/\v.t=[]):=by
 unfold ah at h;split at h
 ·rename_i h0
  split at h
  ·cases h
  rename_i h1
  split at h
  ·rename_i h2;exact .inl ⟨h0,by omega,by omega,by simpa using h2⟩
  ·cases h
 rename_i h0
 split at h
 ·rename_i h1
  split at h
  ·cases h
  rename_i h2
  split at h
  ·cases h
  ·rename_i h3;exact .inr (.inl ⟨h1,Classical.not_not.1 h3,by omega⟩)
 rename_i h1
 split at h
 ·rename_i h2
  split at h
  ·cases h
  rename_i h3
  split at h
  ·rename_i h4;exact .inr (.inr ⟨h2,by omega,by omega,by simpa using h4⟩)
  ·cases h
 ·cases h
theorem Ii {n:Nat} {v:Val} (h:ah n v=0) (hn:n<=1000000):Cl.wX (sF v):=by
 unfold Cl.wX sF;simp only[dz];unfold maxLen;rcases qM h with⟨h0,h1,h2,h3⟩|⟨h0,h1,h2⟩|⟨h0,h1,h2,h3⟩
 ·rw[h3];simp;omega
 ·omega
 ·rw[h3];simp;omega
theorem Ij (h:List aV) (i:Nat) (hi:i<h.length):pG.cellAt (h.map Dk) i=Dk (h.getD i c0):=by
 unfold pG.cellAt;rw[List.getD_eq_getElem?_getD,List.getElem?_map,List.getD_eq_getElem?_getD,List.getElem?_eq_getElem hi];rfl
theorem xW (h:List aV) (hc:∀c∈h,cellC h.length c=0):∀(d:Nat) (v:Val),ah h.length v=0->Cl.dn (h.map Dk) d (sF v)=Bu Lib.itoa h d v
 |0,v,hv=>by
  unfold Cl.dn Bu;show(if v.k=0 then _ else if v.k=1 then _ else _)=_
  split
  ·rfl
  split
  ·rfl
  ·rfl
 |d+1,v,hv=>by
  unfold Cl.dn Bu;show(if v.k=0 then _ else if v.k=1 then _ else _)=_
  split
  ·rfl
  rename_i h0
  split
  ·rfl
  rename_i h1
  rcases qM hv with⟨k0,_⟩|⟨k1,_⟩|⟨k2,n0,n1,_⟩
  ·exact absurd k0 h0
  ·exact absurd k1 h1
  ·have hr:pG.Ac (h.map Dk).length (sF v)=true:=pG.rM.2 ⟨k2,n0,by rw[List.length_map];exact n1⟩;have hi:v.n.toNat<h.length:=by omega
   have hcc:=gQ.1 (hc _ (List.getElem_mem hi));have hg:h.getD v.n.toNat c0=h[v.n.toNat]:=by rw[List.getD_eq_getElem?_getD,List.getElem?_eq_getElem hi];rfl
   rw[if_pos hr];show _=if v.n<0\/(h.length:Int)<=v.n then _ else _
   rw[if_neg (by omega),show(sF v).n.toNat=v.n.toNat from rfl,Ij h _ hi,hg];rw[show(Dk h[v.n.toNat]).l=sF h[v.n.toNat].l from rfl,show(Dk h[v.n.toNat]).r=sF h[v.n.toNat].r from rfl,xW h hc d _ hcc.1,xW h hc d _ hcc.2];simp
abbrev fZ (h:List aV) (v:Val):Bs:=Bu Lib.itoa h 4 v
theorem Mv (w:World) (hp:List aV) (q:ai) (v:Val) (hs:Sl jv 6 w q.v hp) (ht:Cl.rC w) (hc:∀c∈hp,cellC hp.length c=0) (hv:ah hp.length v=0) (hl:hp.length<=1000):
 Calls Tryz.prog 64 #[.slice q.a q.n q.c,vv v,.int .i64 4] w fun e w'=>e=.returned (.string (bs (fZ hp v)))/\Fr nothing w w':=by
 have hlm:(hp.map Dk).length=hp.length:=List.length_map _;have h:=Cl.Oj w (hp.map Dk) (.slice q.a q.n q.c) (sF v) 4 (OZ hs) ht (fun c hcm=>by
  obtain⟨y,hy,rfl⟩:=List.mem_map.1 hcm;have:=gQ.1 (hc y hy);rw[hlm];exact⟨by unfold Cl.SV;rw[show(Dk y).l=sF y.l from rfl,show(Dk y).r=sF y.r from rfl,Ih this.1,Ih this.2];rfl,Ii this.1 (by omega),Ii this.2 (by omega)⟩) (by rw[hlm];exact Ih hv) (Ii hv (by omega)) (by omega) (by omega)
 refine h.mono ?_
 rintro e w' ⟨rfl,hb⟩;refine⟨?_,Fr.of_below hb (Nat.le_refl _) nothing⟩
 rw[show(4:Int).toNat=4 from rfl,xW hp hc 4 v hv];rfl
theorem BK (mb:Nat) (kind:Int) (w:World) (hp:List aV) (q:ai) (v:Val) (c5:w.cell? ⟨mb,5,none⟩=some (.slice q.a q.n q.c)) (hs:Sl jv 6 w q.v hp) (ht:∀w',Fr nothing w w'->Cl.rC w') (hc:∀c∈hp,cellC hp.length c=0) (hv:ah hp.length v=0) (hl:hp.length<=1000):
 Calls Tryz.prog 47 #[.pointer (some ⟨mb,0,none⟩),.int .i64 kind,vv v] w fun e w'=>e=.returned (je ⟨kind,fZ hp v,0⟩)/\Fr nothing w w':=by
 have hml:=lt_of_cell c5;have F1:Fr nothing w (w.alloc (.cells #[.int .i64 v.k,.int .i64 v.n,.string (bs v.t)] 53)):=(Fr.refl _ _).alloc _;obtain⟨w1,hw1⟩:∃y,y=w.alloc (.cells #[.int .i64 v.k,.int .i64 v.n,.string (bs v.t)] 53):=⟨_,rfl⟩
 have F2:Fr nothing w1 (w1.alloc (.cells #[.int .i64 0,.string ⟨#[]⟩,.int .i64 0] 39)):=(Fr.refl _ _).alloc _;obtain⟨w2,hw2⟩:∃y,y=w1.alloc (.cells #[.int .i64 0,.string ⟨#[]⟩,.int .i64 0] 39):=⟨_,rfl⟩
 rw[<-hw1] at F1;rw[<-hw2] at F2;have z1:w1.heap.size=w.heap.size+1:=by rw[hw1];simp
 have ma:=af (w:=w) (cs:=#[.int .i64 v.k,.int .i64 v.n,.string (bs v.t)]) (t:=53) (w1:=w2) (S:=nothing) (by rw[<-hw1];exact F2) id;have mb':=af (w:=w1) (cs:=#[.int .i64 0,.string ⟨#[]⟩,.int .i64 0]) (t:=39) (w1:=w2) (S:=nothing) (by rw[<-hw2];exact Fr.refl _ _) id
 rw[z1] at mb';have bq:Hid (Fr nothing w w2):=F1.trans F2;have iL:Hid (∀w',Fr nothing w2 w'->w'.cell? ⟨mb,5,none⟩=some (.slice q.a q.n q.c)/\w'.cell? ⟨w.heap.size,0,none⟩=some (.int .i64 v.k)/\w'.cell? ⟨w.heap.size,1,none⟩=some (.int .i64 v.n)/\w'.cell? ⟨w.heap.size,2,none⟩=some (.string (bs v.t))):=fun w' hf=>⟨((bq.out.trans hf).cell (p:=⟨mb,5,none⟩) hml id).trans c5,(hf.cell (p:=⟨w.heap.size,0,none⟩) ma.2.2 id).trans (ma.1 0),(hf.cell (p:=⟨w.heap.size,1,none⟩) ma.2.2 id).trans (ma.1 1),(hf.cell (p:=⟨w.heap.size,2,none⟩) ma.2.2 id).trans (ma.1 2)⟩
 have HC:Hid (∀w',Fr nothing w2 w'->Calls Tryz.prog 64 #[.slice q.a q.n q.c,vv v,.int .i64 4] w' fun e w''=>e=.returned (.string (bs (fZ hp v)))/\Fr nothing w' w''):=fun w' hf=>Mv w' hp q v (hs.fr (bq.out.trans hf) (fun _ _=>id)) (ht w' (bq.out.trans hf)) hc hv hl
 have oK:=hide mb';have e1:=hw1.symm;have e2:=hw2.symm;clear hs ht hc hv ma mb' F1 F2 hw1 hw2 c5
 go_enter Tryz.func47,Tryz.ntmps47
 go_wp2_with fail
 refine hd iL (fun hHeld=>?_)
 refine tk 0 ?_
 refine tk 1 ?_
 refine tk 2 ?_
 refine tk 3 ?_
 refine tk 4 ?_
 refine tk 5 ?_
 refine tk 6 ?_
 refine iP 7 (fun K hK=>?_)
 refine aF rfl 64 Tryz.f64 #[.tmp 12,.tmp 13,.const (.int .i64 4)] #[27,53,3] rfl Tryz.func64 (by kernel_rfl) (by kernel_rfl) #[.slice q.a q.n q.c,vv v,.int .i64 4] (by simp[Act.eval]) _ (HC.out _ (Fr.refl nothing w2).drew) ?_
 rintro e w3 ⟨rfl,hf3⟩;refine⟨_,rfl,?_⟩
 have nN:Fr nothing w2 w3:=(Fr.refl nothing w2).drew.trans hf3;have hb:∀j,w3.cell? ⟨w.heap.size+1,j,none⟩=_:=fun j=>(nN.cell (p:=⟨w.heap.size+1,j,none⟩) oK.out.2.2 id).trans (oK.out.1 j)
 have hbz:∀j,w3.frozen? ⟨w.heap.size+1,j,none⟩=_:=fun j=>(nN.frozen (p:=⟨w.heap.size+1,j,none⟩) oK.out.2.2 id).trans (oK.out.2.1 j)
 have b0:=hb 0;have b1:=hb 1;have b2:=hb 2;have bz0:=hbz 0;have bz1:=hbz 1;have bz2:=hbz 2;refine hK _ _ (iL.out _ nN) (fun _=>?_)
 clear hK K hHeld
 try simp only[Act.put,sA,sZ,sS]
 have hHeld:=iL.out _ nN;refine tk 8 ?_
 refine iP 9 (fun K hK=>?_)
 go_simp;have jW:Fr (fun k=>k=w.heap.size+1) w3 (((w3.setCell ⟨w.heap.size+1,0,none⟩ (.int .i64 kind)).setCell ⟨w.heap.size+1,1,none⟩ (.string (bs (fZ hp v)))).setCell ⟨w.heap.size+1,2,none⟩ (.int .i64 0)):=
  (((Fr.refl (fun k=>k=w.heap.size+1) w3).setCell (p:=⟨w.heap.size+1,0,none⟩) (.inl rfl) _).setCell (p:=⟨w.heap.size+1,1,none⟩) (.inl rfl) _).setCell (p:=⟨w.heap.size+1,2,none⟩) (.inl rfl) _
 have abX:=Nat.lt_of_lt_of_le hml (bq.out.trans nN).size;have Xn:w.heap.size<w3.heap.size:=by have:=nN.size;have:=oK.out.2.2;omega
 obtain⟨s1,s2,s3,s4⟩:=iL.out _ nN;refine hK _ _ ⟨(jW.cell (p:=⟨mb,5,none⟩) abX (fun e=>by have e':mb=w.heap.size+1:=e;omega)).trans s1,(jW.cell (p:=⟨w.heap.size,0,none⟩) Xn (fun e=>by have e':w.heap.size=w.heap.size+1:=e;omega)).trans s2,(jW.cell (p:=⟨w.heap.size,1,none⟩) Xn (fun e=>by have e':w.heap.size=w.heap.size+1:=e;omega)).trans s3,(jW.cell (p:=⟨w.heap.size,2,none⟩) Xn (fun e=>by have e':w.heap.size=w.heap.size+1:=e;omega)).trans s4⟩ (fun _=>?_)
 clear hK K hHeld s1 s2 s3 s4
 try simp only[Act.put,sA,sZ,sS]
 refine wpAnyH_done (by kernel_rfl) ?_ _
 have aX:Hid (Fr nothing w (((w3.setCell ⟨w.heap.size+1,0,none⟩ (.int .i64 kind)).setCell ⟨w.heap.size+1,1,none⟩ (.string (bs (fZ hp v)))).setCell ⟨w.heap.size+1,2,none⟩ (.int .i64 0))):=(bq.out.trans nN).then jW (fun k hk e=>by omega)
 go_wp2_with fail
 exact bodyPost_ret (v:=je ⟨kind,fZ hp v,0⟩) (by simp[results,Tryz.results47,go_sem,b0,b1,b2]) rfl ⟨rfl,aX.out⟩
end
section
structure Mz (base mb:Nat) (x:Fx) (qf qh:ai) (a:Ag) (w:World):Prop where
 c0:w.cell? ⟨mb,0,none⟩=some (.int .i64 a.id)
 c1:w.cell? ⟨mb,1,none⟩=some (.int .i64 a.bu)
 c2:w.cell? ⟨mb,2,none⟩=some (.slice x.sc.a x.sc.n x.sc.c)
 c3:w.cell? ⟨mb,3,none⟩=some (.slice x.sw.a x.sw.n x.sw.c)
 c4:w.cell? ⟨mb,4,none⟩=some (.slice qf.a 0 qf.c)
 c5:w.cell? ⟨mb,5,none⟩=some (.slice qh.a qh.n qh.c)
 c6:w.cell? ⟨mb,6,none⟩=some (.int .i64 a.fuel)
 c7:w.cell? ⟨mb,7,none⟩=some (.int .i64 a.cells)
 c8:w.cell? ⟨mb,8,none⟩=some (.int .i64 a.hops)
 hp:fF jv 88 6 base qh a.hp w
 ml:mb<w.heap.size
 e:a.fr=[]
theorem Mz.fr {base mb:Nat} {x:Fx} {qf qh:ai} {a:Ag} {w w':World} {S:Nat->Prop} (h:Mz base mb x qf qh a w) (hf:Fr S w w') (hm:¬S mb) (hq:∀b,qh.ob=some b->¬S b):Mz base mb x qf qh a w':=by
 have hc:∀j,w'.cell? ⟨mb,j,none⟩=w.cell? ⟨mb,j,none⟩:=fun j=>hf.cell (p:=⟨mb,j,none⟩) h.ml hm
 exact⟨(hc 0).trans h.c0,(hc 1).trans h.c1,(hc 2).trans h.c2,(hc 3).trans h.c3,(hc 4).trans h.c4,(hc 5).trans h.c5,(hc 6).trans h.c6,(hc 7).trans h.c7,(hc 8).trans h.c8,h.hp.fr hf hq,Nat.lt_of_lt_of_le h.ml hf.size,h.e⟩
theorem Fo.ok {base:Nat} {r:aQ} {f:Fm} {w:World} (h:Fo base r f w):CY w r f:=⟨h.fn,h.at_,h.v.sl aK,h.s.sl aK⟩
section
variable {base mb : Nat} {x : Fx} {qf qh : ai} {rp : List aQ} {r : aQ} {m : Mc} {w : World}
theorem Mt.each (h:Mt base mb x qf qh rp r m w):Each (CY w) (rp++ [r]) (m.pre++ [m.f]):=by
 refine⟨by simp[h.lp],fun i q f e1 e3=>?_⟩
 rcases kG e1 with⟨f1,i1⟩|⟨i1,h1⟩
 ·rw[List.getElem?_append_left (by rw[<-h.lp];exact i1)] at e3;exact(h.ep i q f f1 e3).ok
 ·rw[i1,h.lp] at e3;have:f=m.f:=by simpa using e3.symm
  rw[this,h1];exact h.et.ok
theorem Ik {r':aQ} {pre:List Fm} {g:Fm} (h:Mt base mb x qf qh (rp++ [r']) r {m with pre:=pre++ [g]} w) (hl:(rp++ [r']).length<=1000) {st:List Val} {v:Val} (hst:m.f.stack=st++ [v]) (hs:st.length<=1000) (hg:g.stack.length<=1000):
 Calls Tryz.prog 49 #[.pointer (some ⟨mb,0,none⟩)] w (MR base mb x (Ob qf qh (rp++ [r']) r) w {m with pre:=pre,f:=bT g v} dB):=by
 have FA:Fr nothing w (w.alloc (.cells #[.int .i64 0,.string ⟨#[]⟩,.int .i64 0] 39)):=(Fr.refl _ _).alloc _;have mA:=af (Fr.refl nothing (w.alloc (.cells #[.int .i64 0,.string ⟨#[]⟩,.int .i64 0] 39))) id;have dF:∀k,Ob qf qh (rp++ [r']) r k->k<w.heap.size:=fun k hk=>(h.ob hk).2
 have hnb:¬(Ob qf qh (rp++ [r']) r w.heap.size\/w.heap.size=mb):=fun e=>by
  rcases e with e|e
  ·have:=dF _ e;omega
  ·have:=h.mw;omega
 obtain⟨wA,iU⟩:∃y,y=w.alloc (.cells #[.int .i64 0,.string ⟨#[]⟩,.int .i64 0] 39):=⟨_,rfl⟩
 rw[<-iU] at FA mA;have bV:Hid (∀w',Fr (fun k=>Ob qf qh (rp++ [r']) r k\/k=mb) wA w'->w'.cell? ⟨w.heap.size,0,none⟩=some (.int .i64 0)/\w'.cell? ⟨w.heap.size,1,none⟩=some (.string ⟨#[]⟩)/\w'.cell? ⟨w.heap.size,2,none⟩=some (.int .i64 0)/\(w'.frozen? ⟨w.heap.size,0,none⟩=false/\w'.frozen? ⟨w.heap.size,1,none⟩=false/\w'.frozen? ⟨w.heap.size,2,none⟩=false)/\w.heap.size<w'.heap.size):=fun w' hf=>by
  have hc:∀j,w'.cell? ⟨w.heap.size,j,none⟩=_:=fun j=>(hf.cell (p:=⟨w.heap.size,j,none⟩) mA.2.2 hnb).trans (mA.1 j)
  have hz:∀j,w'.frozen? ⟨w.heap.size,j,none⟩=_:=fun j=>(hf.frozen (p:=⟨w.heap.size,j,none⟩) mA.2.2 hnb).trans (mA.2.1 j)
  exact⟨hc 0,hc 1,hc 2,⟨hz 0,hz 1,hz 2⟩,Nat.lt_of_lt_of_le mA.2.2 hf.size⟩
 have H0:=hide (h.new FA);have dL:=hide FA;have zA:wA.heap.size=w.heap.size+1:=by rw[iU];simp
 have pY:=hide (dM H0.out hl hst (by omega));have pQ:=iU.symm;have HH:=hide h;have nL:qf.n=(rp.length+1)+1:=by have:=h.frs.2;simpa using this
 have hqc:(rp.length+1)+1<=qf.c:=by have:=h.fr.le;omega
 have hl2:rp.length+1<=1000:=by simpa using hl
 have hwr:IntKind.i64.wrap (((rp.length:Int)+1))=((rp.length:Int)+1):=aO _ (by omega) (by omega);have hbd:0<=(((rp.length:Int)+1):Int)/\(((rp.length:Int)+1):Int)<=(qf.c:Int):=by omega
 have htn:(((rp.length:Int)+1):Int).toNat=(rp.length+1):=by omega
 clear h FA mA iU
 go_enter Tryz.func49,Tryz.ntmps49
 go_wp2_with (first
  |(go_at_call 40;refine pY.out.mono ?_;rintro e w3 ⟨rfl,hM2,eG,hf3⟩;have mF:=hide hM2;have fM:=hide eG;have dX:Hid (Fr (fun k=>Ob qf qh (rp++ [r']) r k\/k=mb) wA w3):=hf3.mono (fun k _ e=> .inl e);clear hM2 eG hf3))
 have OP:Fr nothing w3 (w3.alloc (.cells #[.int .i64 v.k,.int .i64 v.n,.string (bs v.t)] 53)):=(Fr.refl _ _).alloc _;have mV:=af (Fr.refl nothing (w3.alloc (.cells #[.int .i64 v.k,.int .i64 v.n,.string (bs v.t)] 53))) id;have lJ:=hide (mF.out.new OP);have gX:Hid (Fr (fun k=>Ob qf qh (rp++ [r']) r k\/k=mb) wA (w3.alloc (.cells #[.int .i64 v.k,.int .i64 v.n,.string (bs v.t)] 53))):=dX.out.alloc _;have hvb:w.heap.size<w3.heap.size:=by have:=dX.out.size;omega
 generalize w3.alloc (.cells #[.int .i64 v.k,.int .i64 v.n,.string (bs v.t)] 53)=w4 at*;have KQ:=hide mV;clear mV OP;have c4:=lJ.out.c4;have Y2:=lJ.out.mw;rw[nL] at c4;have hS:∀w',Fr nothing w4 w'->w'.cell? ⟨mb,4,none⟩=some (.slice qf.a ((rp.length+1)+1) qf.c):=fun w' hf=>(hf.cell (p:=⟨mb,4,none⟩) Y2 id).trans c4
 have Hw:=hS _ (Fr.refl nothing w4).drew;have Z7:∀w',Fr nothing w4 w'->w'.frozen? ⟨mb,4,none⟩=false:=fun w' hf=>(hf.frozen (p:=⟨mb,4,none⟩) Y2 id).trans (lJ.out.z 4)
 have fzd:=Z7 _ (Fr.refl nothing w4).drew;clear Z7 hS;refine aS (S:=fun w'=>w'.cell? ⟨mb,4,none⟩=some (.slice qf.a ((rp.length+1)+1) qf.c)) (by kernel_rfl) [17] Hw (fun hHeld=>?_)
 refine bM 0 ?_
 refine bM 1 ?_
 refine bM 2 ?_
 refine bM 3 ?_
 refine bM 4 ?_
 refine bM 5 ?_
 refine bM 6 ?_
 refine bM 7 ?_
 refine bM 8 ?_
 refine bM 9 ?_
 refine bM 10 ?_
 refine bM 11 ?_
 refine bM 12 ?_
 refine bM 13 ?_ (hy:=by intro w hSw;(try dsimp only at hSw);go_simp;(try rw[if_pos hbd]);exact Eq.refl _)
 refine jN 14 (fun K hK=>?_)
 go_simp;refine hK.out _ _ Hw ?_
 clear hK K hHeld
 try simp only[Act.put,sA,sZ,sS]
 refine jN 15 (fun K hK=>?_)
 go_simp;refine hK.out _ _ Hw ?_
 clear hK K
 try simp only[Act.put,sA,sZ,sS]
 have hHeld:=Hw;refine bM 16 ?_
 refine Al 17 (fun K hK=>?_)
 go_simp;refine hK.out _ _ ?_
 clear hK K
 try simp only[Act.put,sA,sZ,sS]
 refine wpAny_done (by kernel_rfl) ?_ _
 have hbk:=Mt.back (m:=stk m st) (pre:=pre) (g:=g) lJ.out;have jd:Fr (fun k=>Ob qf qh (rp++ [r']) r k\/k=mb) wA (w4.setCell ⟨mb,4,none⟩ (.slice qf.a (rp.length+1) qf.c)).drew:=(gX.out.trans (hbk.2.1.mono (fun k _ e=> .inr e))).drew;have iV:=hide (hbk.1.new ((Fr.refl nothing _).drew));have HO5:Hid (∀k,Ob ⟨qf.a,rp.length+1,qf.c⟩ qh rp r' k->Ob qf qh (rp++ [r']) r k):=fun k hk=>fM.out k (hbk.2.2 k hk)
 have TN:∀j,(w4.setCell ⟨mb,4,none⟩ (.slice qf.a (rp.length+1) qf.c)).drew.cell? ⟨w3.heap.size,j,none⟩=_:=fun j=>((hbk.2.1.drew.cell (p:=⟨w3.heap.size,j,none⟩) KQ.out.2.2 (fun e=>by have e':w3.heap.size=mb:=e;have:=mF.out.mw;omega))).trans (KQ.out.1 j)
 have p0:=TN 0;have p1:=TN 1;have p2:=TN 2;have Y1:=iV.out.c4;have hvl:w3.heap.size<(w4.setCell ⟨mb,4,none⟩ (.slice qf.a (rp.length+1) qf.c)).drew.heap.size:=Nat.lt_of_lt_of_le KQ.out.2.2 hbk.2.1.drew.size;have cm5:=iV.out.mw;have aX:=hide jd;have hnz:((rp.length:Int)+1==0)=false:=by simp;omega
 clear hbk jd TN c4 Hw fzd;generalize(w4.setCell ⟨mb,4,none⟩ (.slice qf.a (rp.length+1) qf.c)).drew=w5 at*
 go_wp2_with (first
  |(go_at_call 27;refine(fC iV.out (by simp at hl;omega) (by show g.stack.length<=100000;omega) v).mono ?_;rintro e w6 ⟨rfl,⟨q',fD,iW⟩,aR⟩;have gI:=hide fD;have qN:=hide iW;have bg:=hide (aX.out.trans (aR.mono (fun k _ e=> .inl (HO5.out k e))));obtain⟨n0,n1,n2,⟨z0,z1,z2⟩,nl⟩:=bV.out w6 bg.out;clear fD iW aR))
 refine bodyPost_ret (v:=je dB) (by simp[results,Tryz.results49,go_sem,n0,n1,n2,bs]) rfl ?_
 have oJ:=aX.out.size;exact MR.fin (ev:=dB) HH.out.bl HH.out.ml dL.out bg.out gI.out (fun k hk=>(qN.out k hk).imp (HO5.out k) (fun e=>by omega)) dF _ _ _
theorem Mw (h:Mt base mb x qf qh [] r m w) (hl:([]:List aQ).length<=1000) {st:List Val} {v:Val} (hst:m.f.stack=st++ [v]) (hs:st.length<=1000) (ht:∀w',Fr (fun k=>Ob qf qh [] r k\/k=mb) w w'->Cl.rC w') (hc:∀c∈m.hp,cellC m.hp.length c=0) (hv:ah m.hp.length v=0) (Oo:m.hp.length<=1000):
 Calls Tryz.prog 49 #[.pointer (some ⟨mb,0,none⟩)] w fun e w'=>e=.returned (je ⟨4,fZ m.hp v,0⟩)/\Mz base mb x qf qh {m.ag with fr:=[]} w'/\Fr (fun k=>Ob qf qh [] r k\/k=mb) w w':=by
 have FA:Fr nothing w (w.alloc (.cells #[.int .i64 0,.string ⟨#[]⟩,.int .i64 0] 39)):=(Fr.refl _ _).alloc _;have mA:=af (Fr.refl nothing (w.alloc (.cells #[.int .i64 0,.string ⟨#[]⟩,.int .i64 0] 39))) id;have dF:∀k,Ob qf qh [] r k->k<w.heap.size:=fun k hk=>(h.ob hk).2
 have hnb:¬(Ob qf qh [] r w.heap.size\/w.heap.size=mb):=fun e=>by
  rcases e with e|e
  ·have:=dF _ e;omega
  ·have:=h.mw;omega
 obtain⟨wA,iU⟩:∃y,y=w.alloc (.cells #[.int .i64 0,.string ⟨#[]⟩,.int .i64 0] 39):=⟨_,rfl⟩
 rw[<-iU] at FA mA;have bV:Hid (∀w',Fr (fun k=>Ob qf qh [] r k\/k=mb) wA w'->w'.cell? ⟨w.heap.size,0,none⟩=some (.int .i64 0)/\w'.cell? ⟨w.heap.size,1,none⟩=some (.string ⟨#[]⟩)/\w'.cell? ⟨w.heap.size,2,none⟩=some (.int .i64 0)/\(w'.frozen? ⟨w.heap.size,0,none⟩=false/\w'.frozen? ⟨w.heap.size,1,none⟩=false/\w'.frozen? ⟨w.heap.size,2,none⟩=false)/\w.heap.size<w'.heap.size):=fun w' hf=>by
  have hc:∀j,w'.cell? ⟨w.heap.size,j,none⟩=_:=fun j=>(hf.cell (p:=⟨w.heap.size,j,none⟩) mA.2.2 hnb).trans (mA.1 j)
  have hz:∀j,w'.frozen? ⟨w.heap.size,j,none⟩=_:=fun j=>(hf.frozen (p:=⟨w.heap.size,j,none⟩) mA.2.2 hnb).trans (mA.2.1 j)
  exact⟨hc 0,hc 1,hc 2,⟨hz 0,hz 1,hz 2⟩,Nat.lt_of_lt_of_le mA.2.2 hf.size⟩
 have H0:=hide (h.new FA);have dL:=hide FA;have zA:wA.heap.size=w.heap.size+1:=by rw[iU];simp
 have pY:=hide (dM H0.out hl hst (by omega));have pQ:=iU.symm;have HH:=hide h;have nL:qf.n=0+1:=by have:=h.frs.2;simpa using this
 have hqc:0+1<=qf.c:=by have:=h.fr.le;omega
 have hwr:IntKind.i64.wrap (0)=0:=aO _ (by omega) (by omega);have hbd:0<=(0:Int)/\(0:Int)<=(qf.c:Int):=by omega
 have htn:(0:Int).toNat=0:=by omega
 clear h FA mA iU
 go_enter Tryz.func49,Tryz.ntmps49
 go_wp2_with (first
  |(go_at_call 40;refine pY.out.mono ?_;rintro e w3 ⟨rfl,hM2,eG,hf3⟩;have mF:=hide hM2;have fM:=hide eG;have dX:Hid (Fr (fun k=>Ob qf qh [] r k\/k=mb) wA w3):=hf3.mono (fun k _ e=> .inl e);clear hM2 eG hf3))
 have OP:Fr nothing w3 (w3.alloc (.cells #[.int .i64 v.k,.int .i64 v.n,.string (bs v.t)] 53)):=(Fr.refl _ _).alloc _;have mV:=af (Fr.refl nothing (w3.alloc (.cells #[.int .i64 v.k,.int .i64 v.n,.string (bs v.t)] 53))) id;have lJ:=hide (mF.out.new OP);have gX:Hid (Fr (fun k=>Ob qf qh [] r k\/k=mb) wA (w3.alloc (.cells #[.int .i64 v.k,.int .i64 v.n,.string (bs v.t)] 53))):=dX.out.alloc _;have hvb:w.heap.size<w3.heap.size:=by have:=dX.out.size;omega
 generalize w3.alloc (.cells #[.int .i64 v.k,.int .i64 v.n,.string (bs v.t)] 53)=w4 at*;have KQ:=hide mV;clear mV OP;have c4:=lJ.out.c4;have Y2:=lJ.out.mw;rw[nL] at c4;have hS:∀w',Fr nothing w4 w'->w'.cell? ⟨mb,4,none⟩=some (.slice qf.a (0+1) qf.c):=fun w' hf=>(hf.cell (p:=⟨mb,4,none⟩) Y2 id).trans c4
 have Hw:=hS _ (Fr.refl nothing w4).drew;have Z7:∀w',Fr nothing w4 w'->w'.frozen? ⟨mb,4,none⟩=false:=fun w' hf=>(hf.frozen (p:=⟨mb,4,none⟩) Y2 id).trans (lJ.out.z 4)
 have fzd:=Z7 _ (Fr.refl nothing w4).drew;clear Z7 hS;refine aS (S:=fun w'=>w'.cell? ⟨mb,4,none⟩=some (.slice qf.a (0+1) qf.c)) (by kernel_rfl) [17] Hw (fun hHeld=>?_)
 refine bM 0 ?_
 refine bM 1 ?_
 refine bM 2 ?_
 refine bM 3 ?_
 refine bM 4 ?_
 refine bM 5 ?_
 refine bM 6 ?_
 refine bM 7 ?_
 refine bM 8 ?_
 refine bM 9 ?_
 refine bM 10 ?_
 refine bM 11 ?_
 refine bM 12 ?_
 refine bM 13 ?_ (hy:=by intro w hSw;(try dsimp only at hSw);go_simp;(try rw[if_pos hbd]);exact Eq.refl _)
 refine jN 14 (fun K hK=>?_)
 go_simp;refine hK.out _ _ Hw ?_
 clear hK K hHeld
 try simp only[Act.put,sA,sZ,sS]
 refine jN 15 (fun K hK=>?_)
 go_simp;refine hK.out _ _ Hw ?_
 clear hK K
 try simp only[Act.put,sA,sZ,sS]
 have hHeld:=Hw;refine bM 16 ?_
 refine Al 17 (fun K hK=>?_)
 go_simp;refine hK.out _ _ ?_
 clear hK K
 try simp only[Act.put,sA,sZ,sS]
 refine wpAny_done (by kernel_rfl) ?_ _
 have jd:Fr (fun k=>k=mb) w4 (w4.setCell ⟨mb,4,none⟩ (.slice qf.a 0 qf.c)).drew:=((Fr.refl (fun k=>k=mb) w4).setCell (p:=⟨mb,4,none⟩) (.inl rfl) _).drew;have aX:Hid (Fr (fun k=>Ob qf qh [] r k\/k=mb) wA (w4.setCell ⟨mb,4,none⟩ (.slice qf.a 0 qf.c)).drew):=gX.out.trans (jd.mono (fun k _ e=> .inr e));have TN:∀j,(w4.setCell ⟨mb,4,none⟩ (.slice qf.a 0 qf.c)).drew.cell? ⟨w3.heap.size,j,none⟩=_:=fun j=>(jd.cell (p:=⟨w3.heap.size,j,none⟩) KQ.out.2.2 (fun e=>by have e':w3.heap.size=mb:=e;have:=mF.out.mw;omega)).trans (KQ.out.1 j)
 have p0:=TN 0;have p1:=TN 1;have p2:=TN 2;have ho:∀i,i≠4->(w4.setCell ⟨mb,4,none⟩ (.slice qf.a 0 qf.c)).drew.cell? ⟨mb,i,none⟩=w4.cell? ⟨mb,i,none⟩:=fun i hi=>World.cell?_setCell_other w4 ⟨mb,4,none⟩ ⟨mb,i,none⟩ _ (by simp only[ne_eq,Addr.mk.injEq,true_and,and_true];exact fun e=>hi e.symm)
 have Y1:(w4.setCell ⟨mb,4,none⟩ (.slice qf.a 0 qf.c)).drew.cell? ⟨mb,4,none⟩=some (.slice qf.a 0 qf.c):=World.cell?_setCell_same _ _ _ (h:=c4);have Ey:Sl jv 6 (w4.setCell ⟨mb,4,none⟩ (.slice qf.a 0 qf.c)).drew qh.v m.hp:=(lJ.out.hp.fr jd (fun b e e2=>lJ.out.nm b (.inr (.inl e)) e2)).sl bY;have HCS:=hide (And.intro (And.intro ((ho 0 (by decide)).trans lJ.out.c0) (And.intro ((ho 1 (by decide)).trans lJ.out.c1) (And.intro ((ho 2 (by decide)).trans lJ.out.c2) (And.intro ((ho 3 (by decide)).trans lJ.out.c3) Y1)))) (And.intro ((ho 5 (by decide)).trans lJ.out.c5) (And.intro ((ho 6 (by decide)).trans lJ.out.c6) (And.intro ((ho 7 (by decide)).trans lJ.out.c7) ((ho 8 (by decide)).trans lJ.out.c8)))));have HHP:Hid (fF jv 88 6 base qh m.hp (w4.setCell ⟨mb,4,none⟩ (.slice qf.a 0 qf.c)).drew):=lJ.out.hp.fr jd (fun b e e2=>lJ.out.nm b (.inr (.inl e)) e2);have hvl:w3.heap.size<(w4.setCell ⟨mb,4,none⟩ (.slice qf.a 0 qf.c)).drew.heap.size:=Nat.lt_of_lt_of_le KQ.out.2.2 jd.size;have cm5:=Nat.lt_of_lt_of_le Y2 jd.size;have HT:Hid (Calls Tryz.prog 47 #[.pointer (some ⟨mb,0,none⟩),.int .i64 4,vv v] (w4.setCell ⟨mb,4,none⟩ (.slice qf.a 0 qf.c)).drew fun e w'=>e=.returned (je ⟨4,fZ m.hp v,0⟩)/\Fr nothing (w4.setCell ⟨mb,4,none⟩ (.slice qf.a 0 qf.c)).drew w'):=BK mb 4 _ m.hp qh v ((ho 5 (by decide)).trans lJ.out.c5) Ey (fun w' hf=>ht w' ((dL.out.mono (fun _ _ e=>e.elim)).trans (aX.out.trans (hf.mono (fun _ _ e=>e.elim))))) hc hv Oo;clear jd TN ho c4 Hw fzd Ey ht hc hv;generalize(w4.setCell ⟨mb,4,none⟩ (.slice qf.a 0 qf.c)).drew=w5 at*
 go_wp2_with (first
  |(go_at_call 47;refine HT.out.mono ?_;rintro e w6 ⟨rfl,aR⟩;have bg:Hid (Fr nothing w5 w6):=aR;have dH:=hide (aX.out.trans (aR.mono (fun k _ e=>e.elim)));obtain⟨n0,n1,n2,⟨z0,z1,z2⟩,nl⟩:=bV.out w6 dH.out;clear aR))
 have AJ:Fr (fun k=>k=w.heap.size) w6 (((w6.setCell ⟨w.heap.size,0,none⟩ (.int .i64 4)).setCell ⟨w.heap.size,1,none⟩ (.string (bs (fZ m.hp v)))).setCell ⟨w.heap.size,2,none⟩ (.int .i64 0)):=
  (((Fr.refl (fun k=>k=w.heap.size) w6).setCell (p:=⟨w.heap.size,0,none⟩) (.inl rfl) _).setCell (p:=⟨w.heap.size,1,none⟩) (.inl rfl) _).setCell (p:=⟨w.heap.size,2,none⟩) (.inl rfl) _
 refine bodyPost_ret (v:=je ⟨4,fZ m.hp v,0⟩) (by simp[results,Tryz.results49,go_sem,n0,n1,n2]) rfl ⟨rfl,?_,((dL.out.mono (fun _ _ e=>e.elim)).trans dH.out).then AJ (fun k hk e=>absurd e (by omega))⟩
 have hmb:mb<w.heap.size:=HH.out.ml;have Z8:mb<w6.heap.size:=Nat.lt_of_lt_of_le cm5 bg.out.size;have hk:∀j,(((w6.setCell ⟨w.heap.size,0,none⟩ (.int .i64 4)).setCell ⟨w.heap.size,1,none⟩ (.string (bs (fZ m.hp v)))).setCell ⟨w.heap.size,2,none⟩ (.int .i64 0)).cell? ⟨mb,j,none⟩=w5.cell? ⟨mb,j,none⟩:=fun j=>(AJ.cell (p:=⟨mb,j,none⟩) Z8 (fun e=>by have e':mb=w.heap.size:=e;omega)).trans (bg.out.cell (p:=⟨mb,j,none⟩) cm5 id)
 obtain⟨⟨k0,k1,k2,k3,k4⟩,k5,k6,k7,k8⟩:=HCS.out;exact⟨(hk 0).trans k0,(hk 1).trans k1,(hk 2).trans k2,(hk 3).trans k3,(hk 4).trans k4,(hk 5).trans k5,(hk 6).trans k6,(hk 7).trans k7,(hk 8).trans k8,(HHP.out.new bg.out).fr AJ (fun b e e2=>by
  have h1:=dF b (.inr (.inl e));have e':b=w.heap.size:=e2;omega),Nat.lt_of_lt_of_le Z8 AJ.size,rfl⟩
end
end
section
section
variable {base mb : Nat} {x : Fx} {qf qh : ai} {rp : List aQ} {r : aQ} {m : Mc} {w : World}
theorem Mt.goes (h:Mt base mb x qf qh rp r m w) (z:Int):
 ∃g,qf.a=some ⟨g,0,none⟩/\g<w.heap.size/\Ob qf qh rp r g/\(w.cell? ⟨g,rp.length*4,none⟩=some (.int .i64 m.f.fn)/\w.cell? ⟨g,rp.length*4+1,none⟩=some (.int .i64 m.f.at_)/\w.cell? ⟨g,rp.length*4+2,none⟩=some (.slice r.v.a r.v.n r.v.c))/\w.frozen? ⟨g,rp.length*4+1,none⟩=false/\
  Mt base mb x qf qh rp {r with at_:=z} {m with f:={m.f with at_:=z}} (w.setCell ⟨g,rp.length*4+1,none⟩ (.int .i64 z))/\Fr (fun k=>k=g) w (w.setCell ⟨g,rp.length*4+1,none⟩ (.int .i64 z)):=by
 obtain⟨g,ga,gb,gl,gc,gz,go,gf⟩:=h.fr.put dA (i:=rp.length) (j:=1) (x:=r) (x':={r with at_:=z}) (u:=.int .i64 z) (by simp) (by decide) rfl;have hset:(rp++ [r]).set rp.length {r with at_:=z}=rp++ [{r with at_:=z}]:=by simp
 rw[hset] at go;have dF:qf.ob=some g:=h.fr.obs (by simp) ga;obtain⟨g0,a0,-,-,c0',-⟩:=h.fr.put dA (i:=rp.length) (j:=0) (x:=r) (x':=r) (u:=.int .i64 r.fn) (by simp) (by decide) rfl;obtain rfl:g=g0:=by have:=ga.symm.trans a0;simpa using this
 obtain⟨g2,a2,-,-,c2',-⟩:=h.fr.put dA (i:=rp.length) (j:=2) (x:=r) (x':=r) (u:=.slice r.v.a r.v.n r.v.c) (by simp) (by decide) rfl;obtain rfl:g=g2:=by have:=ga.symm.trans a2;simpa using this
 have hmg:¬mb=g:=fun e=>h.nm g (.inl dF) e.symm;have hk:∀j,(w.setCell ⟨g,rp.length*4+1,none⟩ (.int .i64 z)).cell? ⟨mb,j,none⟩=w.cell? ⟨mb,j,none⟩:=fun j=>gf.cell (p:=⟨mb,j,none⟩) h.ml hmg
 have hN:∀(q:ai),Dj qf q->∀b,q.ob=some b->¬b=g:=fun q hd b e e2=>hd b (by rw[e2];exact dF) e
 refine⟨g,ga,gl,.inl dF,⟨by have:=c0';rw[show(lU r)[0]?=some (.int .i64 r.fn) from rfl,h.et.fn] at this;simpa using this,by rw[gc,<-h.et.at_];rfl,c2'⟩,gz,⟨(hk 0).trans h.c0,(hk 1).trans h.c1,(hk 2).trans h.c2,(hk 3).trans h.c3,(hk 4).trans h.c4,(hk 5).trans h.c5,(hk 6).trans h.c6,(hk 7).trans h.c7,(hk 8).trans h.c8,(hk 9).trans h.c9,(hk 10).trans h.c10,(hk 11).trans h.c11,(hk 12).trans h.c12,
  fun j=>(gf.frozen (p:=⟨mb,j,none⟩) h.ml hmg).trans (h.z j),Nat.lt_of_lt_of_le h.ml gf.size,h.size gf,go,h.lp,fun i q f e1 e2=>?_,⟨h.et.fn,rfl,h.et.v.fr gf (hN r.v h.Az.1),h.et.s.fr gf (hN r.s h.Az.2),h.et.d⟩,h.hp.fr gf (hN qh h.Bz),h.Bz,h.Az,h.De,h.BA,h.Ae,h.Hq,h.AA,h.nm⟩,gf⟩
 have hd:=h.BA q (List.mem_of_getElem? e1);exact(h.ep i q f e1 e2).fr gf (hN q.v hd.1) (hN q.s hd.2)
theorem Mt.vars {w1:World} {vs':List Val} (h:Mt base mb x qf qh rp r m w) (hf:Fr (fun k=>r.v.ob=some k) w w1) (ho:fF aP 53 3 base r.v vs' w1):Mt base mb x qf qh rp r {m with f:={m.f with vars:=vs'}} w1:=by
 have hm:¬r.v.ob=some mb:=fun e=>h.nm mb (.inr (.inr (.inl e))) rfl;have hc:∀j,w1.cell? ⟨mb,j,none⟩=w.cell? ⟨mb,j,none⟩:=fun j=>hf.cell (p:=⟨mb,j,none⟩) h.ml hm
 exact⟨(hc 0).trans h.c0,(hc 1).trans h.c1,(hc 2).trans h.c2,(hc 3).trans h.c3,(hc 4).trans h.c4,(hc 5).trans h.c5,(hc 6).trans h.c6,(hc 7).trans h.c7,(hc 8).trans h.c8,(hc 9).trans h.c9,(hc 10).trans h.c10,(hc 11).trans h.c11,(hc 12).trans h.c12,
  fun j=>(hf.frozen (p:=⟨mb,j,none⟩) h.ml hm).trans (h.z j),Nat.lt_of_lt_of_le h.ml hf.size,h.size hf,h.fr.fr hf (fun b e e2=>h.Az.1 b e e2),h.lp,fun i q g e1 e2=>(h.ep i q g e1 e2).fr hf (fun b e e3=>(h.Hq q (List.mem_of_getElem? e1)).1.1 b e3 e) (fun b e e3=>(h.Hq q (List.mem_of_getElem? e1)).1.2 b e3 e),⟨h.et.fn,h.et.at_,ho,h.et.s.fr hf (fun b e e2=>h.et.d b e2 e),h.et.d⟩,h.hp.fr hf (fun b e e2=>h.De.1 b e e2),h.Bz,h.Az,h.De,h.BA,h.Ae,h.Hq,h.AA,h.nm⟩
end
end
end Go.Proofs.YtbcadjgpcfmkfaaGreatDoor
