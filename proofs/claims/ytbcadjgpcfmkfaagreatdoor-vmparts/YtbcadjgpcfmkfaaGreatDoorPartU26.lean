/- LRight. -/
import Derived.Test.YtbcadjgpcfmkfaaGreatDoorPartU21
import Derived.Test.YtbcadjgpcfmkfaaGreatDoorPartU25
import Derived.Test.YtbcadjgpcfmkfaaGreatDoorPartU1
import Derived.Test.YtbcadjgpcfmkfaaGreatDoorPartU16
set_option maxHeartbeats 0
set_option maxRecDepth 100000
set_option linter.unusedSimpArgs false
namespace Go.Proofs.YtbcadjgpcfmkfaaGreatDoor
open Go Go.RowKit
section
def nX (a:Ag) (sp:Sp):Bool:=(sp.facts.all fun x=>ah 0 x.2==0)&&(decide (sp.name.length<=12)&&(dx a false==0))
theorem MM {a:Ag} {sp:Sp} (h:nX a sp=true):TB sp/\sp.name.length<=12/\dx a false=0:=by
 unfold nX at h;simp only[Bool.and_eq_true,decide_eq_true_eq,beq_iff_eq,List.all_eq_true] at h;exact⟨⟨h.1⟩,h.2.1,h.2.2⟩
theorem JN (a:Ag) (sc sw sf sh:ai) (sp:Sp) (cu:ai) (kD kE:Int) (w:World) (hA:iK w sc sw sf sh a) (hW:YV a) (hfs:Sl kF 4 w cu.v sp.facts) (hwf:∀x∈sp.facts,wX x.2) (hnl:sp.name.length<=9223372036854775807):
 Calls Tryz.prog 7 #[.agg (gH a sc sw sf sh),.agg #[.string (bs sp.name),.slice cu.a cu.n cu.c,.int .i64 kD,.int .i64 kE]] w fun e w'=>e=.returned (.bool (nX a sp))/\Fr nothing w w':=by
 have F1:Fr nothing w (w.alloc (.cells (gH a sc sw sf sh) 31)):=(Fr.refl _ _).alloc _;obtain⟨w1,hw1⟩:∃y,y=w.alloc (.cells (gH a sc sw sf sh) 31):=⟨_,rfl⟩
 have F2:Fr nothing w1 (w1.alloc (.cells #[.string (bs sp.name),.slice cu.a cu.n cu.c,.int .i64 kD,.int .i64 kE] 34)):=(Fr.refl _ _).alloc _;obtain⟨w2,hw2⟩:∃y,y=w1.alloc (.cells #[.string (bs sp.name),.slice cu.a cu.n cu.c,.int .i64 kD,.int .i64 kE] 34):=⟨_,rfl⟩
 rw[<-hw1] at F1;rw[<-hw2] at F2;have z1:w1.heap.size=w.heap.size+1:=by rw[hw1];simp
 have ma:=af (w:=w) (cs:=gH a sc sw sf sh) (t:=31) (w1:=w2) (S:=nothing) (by rw[<-hw1];exact F2) id;have ms:=af (w:=w1) (cs:=#[.string (bs sp.name),.slice cu.a cu.n cu.c,.int .i64 kD,.int .i64 kE]) (t:=34) (w1:=w2) (S:=nothing) (by rw[<-hw2];exact Fr.refl _ _) id
 rw[z1] at ms;have bq:Hid (Fr nothing w w2):=F1.trans F2;have jY:Hid (∀w',Fr nothing w2 w'->((w'.cell? ⟨w.heap.size,0,none⟩=some (.int .i64 a.id)/\w'.cell? ⟨w.heap.size,1,none⟩=some (.int .i64 a.bu)/\w'.cell? ⟨w.heap.size,2,none⟩=some (.slice sc.a sc.n sc.c)/\w'.cell? ⟨w.heap.size,3,none⟩=some (.slice sw.a sw.n sw.c)/\w'.cell? ⟨w.heap.size,4,none⟩=some (.slice sf.a sf.n sf.c))/\(w'.cell? ⟨w.heap.size,5,none⟩=some (.slice sh.a sh.n sh.c)/\w'.cell? ⟨w.heap.size,6,none⟩=some (.int .i64 a.fuel)/\w'.cell? ⟨w.heap.size,7,none⟩=some (.int .i64 a.cells)/\w'.cell? ⟨w.heap.size,8,none⟩=some (.int .i64 a.hops)))/\(w'.cell? ⟨w.heap.size+1,0,none⟩=some (.string (bs sp.name))/\w'.cell? ⟨w.heap.size+1,1,none⟩=some (.slice cu.a cu.n cu.c))/\w.heap.size<w'.heap.size/\w.heap.size+1<w'.heap.size):=fun w' hf=>by
  have hc:∀j,w'.cell? ⟨w.heap.size,j,none⟩=_:=fun j=>(hf.cell (p:=⟨w.heap.size,j,none⟩) ma.2.2 id).trans (ma.1 j)
  have hd:∀j,w'.cell? ⟨w.heap.size+1,j,none⟩=_:=fun j=>(hf.cell (p:=⟨w.heap.size+1,j,none⟩) ms.2.2 id).trans (ms.1 j)
  exact⟨⟨⟨hc 0,hc 1,hc 2,hc 3,hc 4⟩,hc 5,hc 6,hc 7,hc 8⟩,⟨hd 0,hd 1⟩,Nat.lt_of_lt_of_le ma.2.2 hf.size,Nat.lt_of_lt_of_le ms.2.2 hf.size⟩
 have HA2:=hide (hA.fr' bq.out);have BC:Hid (∀w',Fr nothing w2 w'->Sl kF 4 w' cu.v sp.facts):=fun w' hf=>hfs.fr (bq.out.trans hf) (fun _ _=>id)
 have XY:Hid (∀w',Fr nothing w2 w'->Calls Tryz.prog 16 #[.agg (gH a sc sw sf sh),.bool false] w' fun e w''=>e=.returned (.int .i64 (dx a false))/\Fr nothing w' w''):=fun w' hf=>JH a sc sw sf sh false w' (HA2.out.fr' hf) hW
 obtain⟨Z0,mfs⟩:=ay hfs;have hbn:=dz sp.name;have pQ:=hw1.symm;have e2':=hw2.symm;have bV:Hid (nX a sp=((sp.facts.all fun x=>ah 0 x.2==0)&&(decide (sp.name.length<=12)&&(dx a false==0)))):=rfl;generalize nX a sp=RB at*;obtain⟨ae,hae⟩:∃x,dx a false=x:=⟨_,rfl⟩
 rw[hae] at XY bV;obtain⟨fa,fn,fc⟩:=cu;simp only at Z0;subst Z0;obtain⟨⟨⟨q0,q1,q2,q3,q4⟩,q5,q6,q7,q8⟩,⟨p0,p1⟩,pl,ql⟩:=jY.out w2 (Fr.refl _ _);clear hA hW hfs F1 F2 ma ms hw1 hw2 hae
 go_enter Tryz.func7,Tryz.ntmps7
 go_wp2_with fail
 clear q0 q1 q2 q3 q4 q5 q6 q7 q8 p0 p1 pl ql pQ e2'
 go_loopw [10,6] (fun i _ wv=>∃j:Nat,j<=sp.facts.length/\i=.int .i64 j/\Hid (Fr nothing w2 wv/\((sp.facts.drop j).all fun x=>ah 0 x.2==0)=sp.facts.all fun x=>ah 0 x.2==0)) (fun i _ _=>sp.facts.length-(intOf i).toNat)
 case atStart=>exact⟨0,Nat.zero_le _,rfl,Fr.refl _ _,rfl⟩
 case round=>
  obtain⟨j,hj,rfl,hRj⟩:=hrel;obtain⟨hfj,BD⟩:=hRj.out;have Gh:=hide hfj
  by_cases hjl:j<sp.facts.length
  ·have hx:sp.facts[j]?=some sp.facts[j]:=List.getElem?_eq_getElem hjl;have hwx:=hwf _ (List.getElem_mem hjl);have hdr:=List.drop_eq_getElem_cons hjl;rw[hdr,List.all_cons] at BD;generalize sp.facts[j]=y at*;obtain⟨g,o,e1,dg,u0,u1,u2,u3⟩:=BB (s:=⟨fa,sp.facts.length,fc⟩) (BC.out wr hfj) hx;simp only at e1;subst e1;obtain⟨yk,yv⟩:=y;simp only at u0 u1 u2 u3 BD hwx;have HRW:=hide (fun w'=>jy yv 0 w' hwx.t);obtain⟨we,Za⟩:∃x,ah 0 yv=x:=⟨_,rfl⟩
   rw[Za] at BD HRW;have HEJ:=hide BD;clear hRj hfj BD hx Za hdr hwx
   by_cases hz:we=0
   ·subst hz
    go_wp2_with (go_at_call 15;refine(HRW.out _).mono ?_;rintro e w5 ⟨rfl,cK⟩;have aX:=hide ((Gh.out.alloc (.cells #[.string (bs yk),.int .i64 yv.k,.int .i64 yv.n,.string (bs yv.t)] 55)).trans cK);clear cK)
    have HE2:Hid (((sp.facts.drop (j+1)).all fun x=>ah 0 x.2==0)=sp.facts.all fun x=>ah 0 x.2==0):=by
     refine hide ?_
     rw[<-HEJ.out];simp
    refine⟨⟨j+1,by omega,by go_num,aX.out,HE2.out⟩,by simp[intOf];omega⟩
   ·have hzb:(we !=0)=true:=by simpa using hz
    go_wp2_with (go_at_call 15;refine(HRW.out _).mono ?_;rintro e w5 ⟨rfl,cK⟩;have aX:=hide ((Gh.out.alloc (.cells #[.string (bs yk),.int .i64 yv.k,.int .i64 yv.n,.string (bs yv.t)] 55)).trans cK);clear cK)
    go_ret
    refine⟨?_,bq.out.trans aX.out⟩
    rw[bV.out,<-HEJ.out];simp[hz]
  ·rw[List.drop_eq_nil_of_le (by omega),List.all_nil] at BD;have HEJ:=hide BD;clear hRj hfj BD;obtain⟨⟨⟨q0,q1,q2,q3,q4⟩,q5,q6,q7,q8⟩,⟨p0,p1⟩,pl,ql⟩:=jY.out wr Gh.out;have HR5:=hide (XY.out wr Gh.out)
   by_cases hn:sp.name.length<=12
   ·have hnb:decide ((sp.name.length:Int)<=12)=true:=by simpa using(by omega:(sp.name.length:Int)<=12)
    go_wp2_with (go_at_call 16;refine HR5.out.mono ?_;rintro e w5 ⟨rfl,cK⟩;have aX:=hide cK;clear cK)
    go_ret
    refine⟨?_,bq.out.trans (Gh.out.trans aX.out)⟩
    rw[bV.out,<-HEJ.out];simp[hn]
   ·have hnb:decide ((sp.name.length:Int)<=12)=false:=by simpa using(by omega:¬(sp.name.length:Int)<=12)
    go_wp2_with fail
    go_ret
    refine⟨?_,bq.out.trans Gh.out⟩
    rw[bV.out,<-HEJ.out];simp[hn]
end
end Go.Proofs.YtbcadjgpcfmkfaaGreatDoor
