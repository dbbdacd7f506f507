/- Texts of ours, joined. -/
import Derived.Test.YtnijcolomoobnaaGreatDoorU15
set_option linter.unusedVariables false
set_option linter.unusedSimpArgs false
set_option maxRecDepth 100000
set_option maxHeartbeats 16000000
namespace Go.Proofs.YtnijcolomoobnaaGreatDoor
section
open Go.RowKit
attribute [local go_sem ↓] Go.wp_at_zero Go.wp_at_succ
def joinV(a b:List UInt8):V × Int:=if a.length+b.length<=256 then (tV (a ++ b),0) else (zV,53)
theorem Nz{a b:List UInt8}(ha:a.length<=281474976710656)(hb:b.length<=281474976710656)(w:World):Calls Tryz.prog 126 #[.string ⟨a.toArray⟩,.string ⟨b.toArray⟩] w fun r w'=>Bg (joinV a b) w r w':=by
 obtain⟨w0,hW0,hb0,hl0,hx0⟩:=Co w;have hwr:IntKind.i64.wrap ((a.length:Int)+(b.length:Int))=(a.length:Int)+(b.length:Int):=by rw[C9];refine wr64_in ?_;unfold InR;omega
 by_cases he:a.length+b.length<=256
 ·have hv:joinV a b=(tV (a ++ b),0):=by unfold joinV;rw[if_pos he]
  rw[hv];have hgt:decide ((256:Int)<(a.length:Int)+(b.length:Int))=false:=by simp;omega
  have hI:=Ls (a ++ b) (by simp;omega) w0;have hap:ByteArray.mk a.toArray ++ ByteArray.mk b.toArray=ByteArray.mk (a ++ b).toArray:=by
   apply ByteArray.ext;simp
  generalize hab:a ++ b=ab at *;clear he hv;go_enter Tryz.func126,Tryz.ntmps126;go_wp2_with fail;refine hI.mono ?_;rintro r w1 ⟨rfl,hb1⟩;have hx1:=(hb1.block _ hl0).trans hx0;obtain⟨s0,s1,s2,s3,t0,t1,t2,t3⟩:=Aa hx1;obtain⟨wN,hWN,hxN,hbN⟩:=Cq hx1 (Nat.le_refl _) (hb0.trans (hb1.mono hb0.size)) (iv 3) (iv 0) (.string ⟨ab.toArray⟩) sZ;obtain⟨m0,m1,m2,m3,-⟩:=Aa hxN;have hlN:w.heap.size<wN.heap.size:=(Array.getElem?_eq_some_iff.1 hxN).1;have hl1:w.heap.size<w1.heap.size:=(Array.getElem?_eq_some_iff.1 hx1).1;clear hI hx0 hx1 hxN hW0 hb1;go_wp2_with fail;exact bodyPost_ret (v:=.tuple #[.agg #[iv 3,iv 0,.string ⟨ab.toArray⟩,sZ],iv 0]) (by simp[results,Tryz.results126,go_sem,hlN,m0,m1,m2,m3]) rfl ⟨rfl,hbN⟩
 ·have hv:joinV a b=(zV,53):=by unfold joinV;rw[if_neg he]
  rw[hv];have hgt:decide ((256:Int)<(a.length:Int)+(b.length:Int))=true:=by simp;omega
  obtain⟨s0,s1,s2,s3,t0,t1,t2,t3⟩:=Aa hx0;obtain⟨wN,hWN,hxN,hbN⟩:=Cq hx0 (Nat.le_refl _) hb0 (iv 0) (iv 0) (.string ⟨#[]⟩) sZ;obtain⟨m0,m1,m2,m3,-⟩:=Aa hxN;have hlN:w.heap.size<wN.heap.size:=(Array.getElem?_eq_some_iff.1 hxN).1;clear he hv hx0 hxN;go_enter Tryz.func126,Tryz.ntmps126;go_wp2_with fail;exact bodyPost_ret (v:=.tuple #[.agg #[iv 0,iv 0,.string ⟨#[]⟩,sZ],iv 53]) (by simp[results,Tryz.results126,go_sem,hlN,m0,m1,m2,m3]) rfl ⟨rfl,hbN⟩
/-! Binary. -/
theorem Cz(w:World)(a:V)(sa:Value)(b:V)(sb:Value):∃w0 w1 w2,w.alloc (.cells #[iv a.k,iv a.n,bz a.t,sa] 31)=w0∧w0.alloc (.cells #[iv b.k,iv b.n,bz b.t,sb] 31)=w1∧w1.alloc (.cells #[iv 0,iv 0,.string ⟨#[]⟩,sZ] 31)=w2∧w0.heap.size=w.heap.size+1∧w1.heap.size=w.heap.size+2∧w2.heap.size=w.heap.size+3∧Below w.heap.size w w2∧w2.heap[w.heap.size+2]?=some (.cells #[iv 0,iv 0,.string ⟨#[]⟩,sZ] 31 (0,0)) ∧
  w2.cell? ⟨w.heap.size,0,none⟩=some (iv a.k)∧w2.cell? ⟨w.heap.size,1,none⟩=some (iv a.n)∧w2.cell? ⟨w.heap.size,2,none⟩=some (bz a.t)∧w2.cell? ⟨w.heap.size,3,none⟩=some sa ∧
  w2.cell? ⟨w.heap.size+1,0,none⟩=some (iv b.k)∧w2.cell? ⟨w.heap.size+1,1,none⟩=some (iv b.n)∧w2.cell? ⟨w.heap.size+1,2,none⟩=some (bz b.t)∧w2.cell? ⟨w.heap.size+1,3,none⟩=some sb:=by
 obtain⟨w0,w1,hW,hW1,hs0,hs1,hB,d0,d1,d2,d3,e0,e1,e2,e3⟩:=Dn w a sa b sb;obtain⟨w2,hW2,hb2,hl2,hx2⟩:=Co w1;obtain⟨f1,-⟩:=Ag hb2;rw[<-f1 w.heap.size _ (by omega)] at d0 d1 d2 d3;rw[<-f1 (w.heap.size+1) _ (by omega)] at e0 e1 e2 e3;rw[hs1] at hx2;refine⟨w0,w1,w2,hW,hW1,hW2,hs0,hs1,?_,hB.trans (hb2.mono hB.size),hx2,d0,d1,d2,d3,e0,e1,e2,e3⟩;rw[<-hW2];simp[hs1]
theorem Xg{B:Nat->Prop}{a b:V}{sa sb:Value}{w:World}(ha:IsW B w a sa)(hb:IsW B w b sb):Calls Tryz.prog 83 #[iv 3,.agg #[iv a.k,iv a.n,bz a.t,sa],.agg #[iv b.k,iv b.n,bz b.t,sb]] w fun r w'=>Bg (bV' (decide (cmpV a b=0)),0) w r w':=by
 obtain⟨w0,w1,w2,hW0,hW1,hW2,hs0,hs1,hs2,hB,hx0,d0,d1,d2,d3,g0,g1,g2,g3⟩:=Cz w a sa b sb;have hC:=Cm (ha.below hB) (hb.below hB);generalize cmpV a b=c at *;have hd:decide (c=0)=(c == 0):=by by_cases h:c=0 <;> simp[h]
 rw[hd];obtain⟨q,hq⟩:∃q,(c == 0)=q:=⟨_,rfl⟩;rw[hq];have hQ:=fun w=>Ew q w
 obtain⟨z,hz⟩:∃z,Hid ((if q=true then (1:Int) else 0)=z):=⟨_,rfl⟩;simp only[hz.out] at hQ;clear hd ha hb;go_enter Tryz.func83,Tryz.ntmps83;go_wp2_with fail;refine hC.mono ?_;rintro r w3 ⟨rfl,hb3⟩;clear hC;go_wp2_with fail;refine (hQ w3).mono ?_;rintro r w4 ⟨rfl,hb4⟩;have hb5:Below w2.heap.size w2 w4:=hb3.trans (hb4.mono hb3.size);have hlq:w.heap.size+2<w2.heap.size:=by omega
 have hxq:=(hb5.block _ hlq).trans hx0;obtain⟨s0,s1,s2,s3,t0,t1,t2,t3⟩:=Aa hxq;obtain⟨wN,hWN,hxN,hbN⟩:=Cq hxq (Nat.le_add_right _ 2) (hB.trans (hb5.mono hB.size)) (iv 2) (iv z) (.string ⟨#[]⟩) sZ;obtain⟨m0,m1,m2,m3,-⟩:=Aa hxN;have hlN:w.heap.size+2<wN.heap.size:=(Array.getElem?_eq_some_iff.1 hxN).1;have hlw:w.heap.size+2<w4.heap.size:=(Array.getElem?_eq_some_iff.1 hxq).1;clear hxN hxq hx0 hQ hb3 hb4 hW0 hW1 hW2 d0 d1 d2 d3 g0 g1 g2 g3;go_wp2_with fail;exact bodyPost_ret (v:=.tuple #[.agg #[iv 2,iv z,.string ⟨#[]⟩,sZ],iv 0]) (by simp[results,Tryz.results83,go_sem,hlN,m0,m1,m2,m3]) rfl ⟨by rw[<-hz.out];rfl,hbN⟩
theorem Xh{B:Nat->Prop}{a b:V}{sa sb:Value}{w:World}(ha:IsW B w a sa)(hb:IsW B w b sb):Calls Tryz.prog 83 #[iv 4,.agg #[iv a.k,iv a.n,bz a.t,sa],.agg #[iv b.k,iv b.n,bz b.t,sb]] w fun r w'=>Bg (bV' (decide (cmpV a b≠0)),0) w r w':=by
 obtain⟨w0,w1,w2,hW0,hW1,hW2,hs0,hs1,hs2,hB,hx0,d0,d1,d2,d3,g0,g1,g2,g3⟩:=Cz w a sa b sb;have hC:=Cm (ha.below hB) (hb.below hB);generalize cmpV a b=c at *;have hd:decide (c≠0)=(c != 0):=by by_cases h:c=0 <;> simp[h]
 rw[hd];obtain⟨q,hq⟩:∃q,(c != 0)=q:=⟨_,rfl⟩;rw[hq];have hQ:=fun w=>Ew q w
 obtain⟨z,hz⟩:∃z,Hid ((if q=true then (1:Int) else 0)=z):=⟨_,rfl⟩;simp only[hz.out] at hQ;clear hd ha hb;go_enter Tryz.func83,Tryz.ntmps83;go_wp2_with fail;refine hC.mono ?_;rintro r w3 ⟨rfl,hb3⟩;clear hC;go_wp2_with fail;refine (hQ w3).mono ?_;rintro r w4 ⟨rfl,hb4⟩;have hb5:Below w2.heap.size w2 w4:=hb3.trans (hb4.mono hb3.size);have hlq:w.heap.size+2<w2.heap.size:=by omega
 have hxq:=(hb5.block _ hlq).trans hx0;obtain⟨s0,s1,s2,s3,t0,t1,t2,t3⟩:=Aa hxq;obtain⟨wN,hWN,hxN,hbN⟩:=Cq hxq (Nat.le_add_right _ 2) (hB.trans (hb5.mono hB.size)) (iv 2) (iv z) (.string ⟨#[]⟩) sZ;obtain⟨m0,m1,m2,m3,-⟩:=Aa hxN;have hlN:w.heap.size+2<wN.heap.size:=(Array.getElem?_eq_some_iff.1 hxN).1;have hlw:w.heap.size+2<w4.heap.size:=(Array.getElem?_eq_some_iff.1 hxq).1;clear hxN hxq hx0 hQ hb3 hb4 hW0 hW1 hW2 d0 d1 d2 d3 g0 g1 g2 g3;go_wp2_with fail;exact bodyPost_ret (v:=.tuple #[.agg #[iv 2,iv z,.string ⟨#[]⟩,sZ],iv 0]) (by simp[results,Tryz.results83,go_sem,hlN,m0,m1,m2,m3]) rfl ⟨by rw[<-hz.out];rfl,hbN⟩
theorem Vt{op:Int}{a b:V}{sa sb:Value}{w:World}(q3:(op == 3)=false)(q4:(op == 4)=false)(hk:(a.k != b.k)=true∨((a.k != b.k)=false∧(a.k != 1)=true∧(a.k != 3)=true)):Calls Tryz.prog 83 #[iv op,.agg #[iv a.k,iv a.n,bz a.t,sa],.agg #[iv b.k,iv b.n,bz b.t,sb]] w fun r w'=>Bg (zV,40) w r w':=by
 obtain⟨w0,w1,w2,hW0,hW1,hW2,hs0,hs1,hs2,hB,hx0,d0,d1,d2,d3,g0,g1,g2,g3⟩:=Cz w a sa b sb;have hR:=Below.refl w2.heap.size w2;rcases hk with f0 | ⟨f0,f1,f3⟩
 ·go_enter Tryz.func83,Tryz.ntmps83;have hlq:w.heap.size+2<w2.heap.size:=by omega
  have hxq:=(hR.block _ hlq).trans hx0;obtain⟨s0,s1,s2,s3,t0,t1,t2,t3⟩:=Aa hxq;obtain⟨wN,hWN,hxN,hbN⟩:=Cq hxq (Nat.le_add_right _ 2) (hB.trans (hR.mono hB.size)) (iv 0) (iv 0) (.string ⟨#[]⟩) sZ;obtain⟨m0,m1,m2,m3,-⟩:=Aa hxN;have hlN:w.heap.size+2<wN.heap.size:=(Array.getElem?_eq_some_iff.1 hxN).1;have hlw:w.heap.size+2<w2.heap.size:=(Array.getElem?_eq_some_iff.1 hxq).1;clear hxN hxq hx0;go_wp2_with fail;exact bodyPost_ret (v:=.tuple #[.agg #[iv 0,iv 0,.string ⟨#[]⟩,sZ],iv 40]) (by simp[results,Tryz.results83,go_sem,hlN,m0,m1,m2,m3]) rfl ⟨rfl,hbN⟩
 ·go_enter Tryz.func83,Tryz.ntmps83;have hlq:w.heap.size+2<w2.heap.size:=by omega
  have hxq:=(hR.block _ hlq).trans hx0;obtain⟨s0,s1,s2,s3,t0,t1,t2,t3⟩:=Aa hxq;obtain⟨wN,hWN,hxN,hbN⟩:=Cq hxq (Nat.le_add_right _ 2) (hB.trans (hR.mono hB.size)) (iv 0) (iv 0) (.string ⟨#[]⟩) sZ;obtain⟨m0,m1,m2,m3,-⟩:=Aa hxN;have hlN:w.heap.size+2<wN.heap.size:=(Array.getElem?_eq_some_iff.1 hxN).1;have hlw:w.heap.size+2<w2.heap.size:=(Array.getElem?_eq_some_iff.1 hxq).1;clear hxN hxq hx0;go_wp2_with fail;exact bodyPost_ret (v:=.tuple #[.agg #[iv 0,iv 0,.string ⟨#[]⟩,sZ],iv 40]) (by simp[results,Tryz.results83,go_sem,hlN,m0,m1,m2,m3]) rfl ⟨rfl,hbN⟩
theorem Vu{B:Nat->Prop}{op:Int}{a b:V}{sa sb:Value}{w:World}(ha:IsW B w a sa)(hb:IsW B w b sb)(q3:(op == 3)=false)(q4:(op == 4)=false)(f0:(a.k != b.k)=false)(f1:(a.k != 1)=false∨((a.k != 1)=true∧(a.k != 3)=false))(h5:decide (5<=op)=true)(h8:decide (op<=8)=true):Calls Tryz.prog 83 #[iv op,.agg #[iv a.k,iv a.n,bz a.t,sa],.agg #[iv b.k,iv b.n,bz b.t,sb]] w fun r w'=>Bg (bV' (ordB op (cmpV a b)),0) w r w':=by
 obtain⟨w0,w1,w2,hW0,hW1,hW2,hs0,hs1,hs2,hB,hx0,d0,d1,d2,d3,g0,g1,g2,g3⟩:=Cz w a sa b sb;have hC:=Cm (ha.below hB) (hb.below hB);generalize cmpV a b=c at *;have hO:=fun w=>Mg op c w
 generalize ordB op c=q at *;have hQ:=fun w=>Ew q w
 obtain⟨z,hz⟩:∃z,Hid ((if q=true then (1:Int) else 0)=z):=⟨_,rfl⟩;simp only[hz.out] at hQ;clear ha hb;rcases f1 with f1 | ⟨f1,f3⟩
 ·go_enter Tryz.func83,Tryz.ntmps83;go_wp2_with fail;refine hC.mono ?_;rintro r w3 ⟨rfl,hb3⟩;clear hC;go_wp2_with fail;refine (hO w3).mono ?_;rintro r w3' ⟨rfl,hw3⟩;obtain rfl:=hw3.symm;clear hO;go_wp2_with fail;refine (hQ w3).mono ?_;rintro r w4 ⟨rfl,hb4⟩;have hb5:Below w2.heap.size w2 w4:=hb3.trans (hb4.mono hb3.size);have hlq:w.heap.size+2<w2.heap.size:=by omega
  have hxq:=(hb5.block _ hlq).trans hx0;obtain⟨s0,s1,s2,s3,t0,t1,t2,t3⟩:=Aa hxq;obtain⟨wN,hWN,hxN,hbN⟩:=Cq hxq (Nat.le_add_right _ 2) (hB.trans (hb5.mono hB.size)) (iv 2) (iv z) (.string ⟨#[]⟩) sZ;obtain⟨m0,m1,m2,m3,-⟩:=Aa hxN;have hlN:w.heap.size+2<wN.heap.size:=(Array.getElem?_eq_some_iff.1 hxN).1;have hlw:w.heap.size+2<w4.heap.size:=(Array.getElem?_eq_some_iff.1 hxq).1;clear hxN hxq hx0 hQ hb3 hb4 hW0 hW1 hW2 d0 d1 d2 d3 g0 g1 g2 g3;go_wp2_with fail;exact bodyPost_ret (v:=.tuple #[.agg #[iv 2,iv z,.string ⟨#[]⟩,sZ],iv 0]) (by simp[results,Tryz.results83,go_sem,hlN,m0,m1,m2,m3]) rfl ⟨by rw[<-hz.out];rfl,hbN⟩
 ·go_enter Tryz.func83,Tryz.ntmps83;go_wp2_with fail;refine hC.mono ?_;rintro r w3 ⟨rfl,hb3⟩;clear hC;go_wp2_with fail;refine (hO w3).mono ?_;rintro r w3' ⟨rfl,hw3⟩;obtain rfl:=hw3.symm;clear hO;go_wp2_with fail;refine (hQ w3).mono ?_;rintro r w4 ⟨rfl,hb4⟩;have hb5:Below w2.heap.size w2 w4:=hb3.trans (hb4.mono hb3.size);have hlq:w.heap.size+2<w2.heap.size:=by omega
  have hxq:=(hb5.block _ hlq).trans hx0;obtain⟨s0,s1,s2,s3,t0,t1,t2,t3⟩:=Aa hxq;obtain⟨wN,hWN,hxN,hbN⟩:=Cq hxq (Nat.le_add_right _ 2) (hB.trans (hb5.mono hB.size)) (iv 2) (iv z) (.string ⟨#[]⟩) sZ;obtain⟨m0,m1,m2,m3,-⟩:=Aa hxN;have hlN:w.heap.size+2<wN.heap.size:=(Array.getElem?_eq_some_iff.1 hxN).1;have hlw:w.heap.size+2<w4.heap.size:=(Array.getElem?_eq_some_iff.1 hxq).1;clear hxN hxq hx0 hQ hb3 hb4 hW0 hW1 hW2 d0 d1 d2 d3 g0 g1 g2 g3;go_wp2_with fail;exact bodyPost_ret (v:=.tuple #[.agg #[iv 2,iv z,.string ⟨#[]⟩,sZ],iv 0]) (by simp[results,Tryz.results83,go_sem,hlN,m0,m1,m2,m3]) rfl ⟨by rw[<-hz.out];rfl,hbN⟩
theorem Vv{op:Int}{a b:V}{sa sb:Value}{w:World}(ha:InR a.n)(hb:InR b.n)(q3:(op == 3)=false)(q4:(op == 4)=false)(f0:(a.k != b.k)=false)(f1:(a.k != 1)=false)(f2:(a.k == 1)=true)(ho:decide (5<=op)=false∨(decide (5<=op)=true∧decide (op<=8)=false)):Calls Tryz.prog 83 #[iv op,.agg #[iv a.k,iv a.n,bz a.t,sa],.agg #[iv b.k,iv b.n,bz b.t,sb]] w fun r w'=>Bg (numV (arZ op a.n b.n)) w r w':=by
 obtain⟨w0,w1,w2,hW0,hW1,hW2,hs0,hs1,hs2,hB,hx0,d0,d1,d2,d3,g0,g1,g2,g3⟩:=Cz w a sa b sb;have hN:=fun w=>Kx (op:=op) ha hb w
 generalize arZ op a.n b.n=X at *;have hx:∀w',Calls Tryz.prog 85 #[iv X.1,iv X.2] w' fun r w''=>Bg (numV X) w' r w'':=fun w'=>Mf _ _ w'
 obtain⟨Y,hY⟩:∃Y,Hid (numV X=Y):=⟨_,rfl⟩;rw[hY.out];simp only[hY.out] at hx;rcases ho with h5 | ⟨h5,h8⟩
 ·go_enter Tryz.func83,Tryz.ntmps83;go_wp2_with fail;refine (hN w2).mono ?_;rintro r w3 ⟨rfl,hw3⟩;obtain rfl:=hw3.symm;clear hN;go_wp2_with fail;refine (hx w2).mono ?_;rintro r w4 ⟨rfl,hb4⟩;have hlq:w.heap.size+2<w2.heap.size:=by omega
  have hxq:=(hb4.block _ hlq).trans hx0;obtain⟨s0,s1,s2,s3,t0,t1,t2,t3⟩:=Aa hxq;obtain⟨wN,hWN,hxN,hbN⟩:=Cq hxq (Nat.le_add_right _ 2) (hB.trans (hb4.mono hB.size)) (iv Y.1.k) (iv Y.1.n) (.string ⟨Y.1.t.toArray⟩) sZ;obtain⟨m0,m1,m2,m3,-⟩:=Aa hxN;have hlN:w.heap.size+2<wN.heap.size:=(Array.getElem?_eq_some_iff.1 hxN).1;have hlw:w.heap.size+2<w4.heap.size:=(Array.getElem?_eq_some_iff.1 hxq).1;clear hxN hxq hx0 hx hW0 hW1 hW2 d0 d1 d2 d3 g0 g1 g2 g3;go_wp2_with fail;exact bodyPost_ret (v:=.tuple #[.agg #[iv Y.1.k,iv Y.1.n,.string ⟨Y.1.t.toArray⟩,sZ],iv Y.2]) (by simp[results,Tryz.results83,go_sem,hlN,m0,m1,m2,m3]) rfl ⟨rfl,hbN⟩
 ·go_enter Tryz.func83,Tryz.ntmps83;go_wp2_with fail;refine (hN w2).mono ?_;rintro r w3 ⟨rfl,hw3⟩;obtain rfl:=hw3.symm;clear hN;go_wp2_with fail;refine (hx w2).mono ?_;rintro r w4 ⟨rfl,hb4⟩;have hlq:w.heap.size+2<w2.heap.size:=by omega
  have hxq:=(hb4.block _ hlq).trans hx0;obtain⟨s0,s1,s2,s3,t0,t1,t2,t3⟩:=Aa hxq;obtain⟨wN,hWN,hxN,hbN⟩:=Cq hxq (Nat.le_add_right _ 2) (hB.trans (hb4.mono hB.size)) (iv Y.1.k) (iv Y.1.n) (.string ⟨Y.1.t.toArray⟩) sZ;obtain⟨m0,m1,m2,m3,-⟩:=Aa hxN;have hlN:w.heap.size+2<wN.heap.size:=(Array.getElem?_eq_some_iff.1 hxN).1;have hlw:w.heap.size+2<w4.heap.size:=(Array.getElem?_eq_some_iff.1 hxq).1;clear hxN hxq hx0 hx hW0 hW1 hW2 d0 d1 d2 d3 g0 g1 g2 g3;go_wp2_with fail;exact bodyPost_ret (v:=.tuple #[.agg #[iv Y.1.k,iv Y.1.n,.string ⟨Y.1.t.toArray⟩,sZ],iv Y.2]) (by simp[results,Tryz.results83,go_sem,hlN,m0,m1,m2,m3]) rfl ⟨rfl,hbN⟩
theorem Vw{a b:V}{sa sb:Value}{w:World}(ha:a.t.length<=281474976710656)(hb:b.t.length<=281474976710656)(f0:(a.k != b.k)=false)(f1:(a.k != 1)=true)(f3:(a.k != 3)=false)(f2:(a.k == 1)=false):Calls Tryz.prog 83 #[iv 9,.agg #[iv a.k,iv a.n,bz a.t,sa],.agg #[iv b.k,iv b.n,bz b.t,sb]] w fun r w'=>Bg (joinV a.t b.t) w r w':=by
 obtain⟨w0,w1,w2,hW0,hW1,hW2,hs0,hs1,hs2,hB,hx0,d0,d1,d2,d3,g0,g1,g2,g3⟩:=Cz w a sa b sb;have hx:=fun w=>Nz ha hb w
 obtain⟨Y,hY⟩:∃Y,Hid (joinV a.t b.t=Y):=⟨_,rfl⟩;rw[hY.out];simp only[hY.out] at hx;go_enter Tryz.func83,Tryz.ntmps83;go_wp2_with fail;refine (hx w2).mono ?_;rintro r w4 ⟨rfl,hb4⟩;have hlq:w.heap.size+2<w2.heap.size:=by omega
 have hxq:=(hb4.block _ hlq).trans hx0;obtain⟨s0,s1,s2,s3,t0,t1,t2,t3⟩:=Aa hxq;obtain⟨wN,hWN,hxN,hbN⟩:=Cq hxq (Nat.le_add_right _ 2) (hB.trans (hb4.mono hB.size)) (iv Y.1.k) (iv Y.1.n) (.string ⟨Y.1.t.toArray⟩) sZ;obtain⟨m0,m1,m2,m3,-⟩:=Aa hxN;have hlN:w.heap.size+2<wN.heap.size:=(Array.getElem?_eq_some_iff.1 hxN).1;have hlw:w.heap.size+2<w4.heap.size:=(Array.getElem?_eq_some_iff.1 hxq).1;clear hxN hxq hx0 hx hW0 hW1 hW2 d0 d1 d2 d3 g0 g1 g2 g3;go_wp2_with fail;exact bodyPost_ret (v:=.tuple #[.agg #[iv Y.1.k,iv Y.1.n,.string ⟨Y.1.t.toArray⟩,sZ],iv Y.2]) (by simp[results,Tryz.results83,go_sem,hlN,m0,m1,m2,m3]) rfl ⟨rfl,hbN⟩
theorem Vx{op:Int}{a b:V}{sa sb:Value}{w:World}(q3:(op == 3)=false)(q4:(op == 4)=false)(q9:(op == 9)=false)(f0:(a.k != b.k)=false)(f1:(a.k != 1)=true)(f3:(a.k != 3)=false)(f2:(a.k == 1)=false)(ho:decide (5<=op)=false∨(decide (5<=op)=true∧decide (op<=8)=false)):Calls Tryz.prog 83 #[iv op,.agg #[iv a.k,iv a.n,bz a.t,sa],.agg #[iv b.k,iv b.n,bz b.t,sb]] w fun r w'=>Bg (zV,40) w r w':=by
 obtain⟨w0,w1,w2,hW0,hW1,hW2,hs0,hs1,hs2,hB,hx0,d0,d1,d2,d3,g0,g1,g2,g3⟩:=Cz w a sa b sb;have hR:=Below.refl w2.heap.size w2;rcases ho with h5 | ⟨h5,h8⟩
 ·go_enter Tryz.func83,Tryz.ntmps83;have hlq:w.heap.size+2<w2.heap.size:=by omega
  have hxq:=(hR.block _ hlq).trans hx0;obtain⟨s0,s1,s2,s3,t0,t1,t2,t3⟩:=Aa hxq;obtain⟨wN,hWN,hxN,hbN⟩:=Cq hxq (Nat.le_add_right _ 2) (hB.trans (hR.mono hB.size)) (iv 0) (iv 0) (.string ⟨#[]⟩) sZ;obtain⟨m0,m1,m2,m3,-⟩:=Aa hxN;have hlN:w.heap.size+2<wN.heap.size:=(Array.getElem?_eq_some_iff.1 hxN).1;have hlw:w.heap.size+2<w2.heap.size:=(Array.getElem?_eq_some_iff.1 hxq).1;clear hxN hxq hx0;go_wp2_with fail;exact bodyPost_ret (v:=.tuple #[.agg #[iv 0,iv 0,.string ⟨#[]⟩,sZ],iv 40]) (by simp[results,Tryz.results83,go_sem,hlN,m0,m1,m2,m3]) rfl ⟨rfl,hbN⟩
 ·go_enter Tryz.func83,Tryz.ntmps83;have hlq:w.heap.size+2<w2.heap.size:=by omega
  have hxq:=(hR.block _ hlq).trans hx0;obtain⟨s0,s1,s2,s3,t0,t1,t2,t3⟩:=Aa hxq;obtain⟨wN,hWN,hxN,hbN⟩:=Cq hxq (Nat.le_add_right _ 2) (hB.trans (hR.mono hB.size)) (iv 0) (iv 0) (.string ⟨#[]⟩) sZ;obtain⟨m0,m1,m2,m3,-⟩:=Aa hxN;have hlN:w.heap.size+2<wN.heap.size:=(Array.getElem?_eq_some_iff.1 hxN).1;have hlw:w.heap.size+2<w2.heap.size:=(Array.getElem?_eq_some_iff.1 hxq).1;clear hxN hxq hx0;go_wp2_with fail;exact bodyPost_ret (v:=.tuple #[.agg #[iv 0,iv 0,.string ⟨#[]⟩,sZ],iv 40]) (by simp[results,Tryz.results83,go_sem,hlN,m0,m1,m2,m3]) rfl ⟨rfl,hbN⟩
theorem N0{B:Nat->Prop}{a b:V}{sa sb:Value}{w:World}(op:Int)(ha:IsW B w a sa)(hb:IsW B w b sb)(hta:a.t.length<=281474976710656)(htb:b.t.length<=281474976710656):Calls Tryz.prog 83 #[iv op,.agg #[iv a.k,iv a.n,bz a.t,sa],.agg #[iv b.k,iv b.n,bz b.t,sb]] w fun r w'=>Bg (binV op a b) w r w':=by
 unfold binV;by_cases c3:op=3
 ·rw[if_pos c3];subst c3;exact Xg ha hb
 rw[if_neg c3];by_cases c4:op=4
 ·rw[if_pos c4];subst c4;exact Xh ha hb
 rw[if_neg c4];have q3:(op == 3)=false:=by simpa using c3
 have q4:(op == 4)=false:=by simpa using c4
 by_cases hk:a.k≠b.k∨(a.k≠1∧a.k≠3)
 ·rw[if_pos hk];refine Vt q3 q4 ?_;by_cases h0:a.k=b.k
  ·rcases hk with h | ⟨h1,h3⟩
   ·exact absurd h0 h
   ·exact Or.inr ⟨by simp[h0],by simpa using h1,by simpa using h3⟩
  ·exact Or.inl (by simpa using h0)
 rw[if_neg hk];have h0:a.k=b.k:=Classical.byContradiction fun h=>hk (Or.inl h)
 have f0:(a.k != b.k)=false:=by simp[h0]
 by_cases ho:5<=op∧op<=8
 ·rw[if_pos ho];refine Vu ha hb q3 q4 f0 ?_ (by simpa using ho.1) (by simpa using ho.2);by_cases h1:a.k=1
  ·exact Or.inl (by simp[h1])
  ·exact Or.inr ⟨by simpa using h1,by simp;exact Classical.byContradiction fun h=>hk (Or.inr ⟨h1,h⟩)⟩
 rw[if_neg ho];have ho':decide (5<=op)=false∨(decide (5<=op)=true∧decide (op<=8)=false):=by
  simp only[decide_eq_false_iff_not,decide_eq_true_eq];omega
 by_cases h1:a.k=1
 ·rw[if_pos h1];exact Vv (op:=op) ha.nr hb.nr q3 q4 f0 (by simp[h1]) (by simp[h1]) ho'
 rw[if_neg h1];have f1:(a.k != 1)=true:=by simpa using h1
 have f2:(a.k == 1)=false:=by simpa using h1
 have f3:(a.k != 3)=false:=by simp;exact Classical.byContradiction fun h=>hk (Or.inr ⟨h1,h⟩)
 by_cases h9:op=9
 ·rw[if_pos h9];subst h9;exact Vw hta htb f0 f1 f3 f2
 rw[if_neg h9];exact Vx q3 q4 (by simpa using h9) f0 f1 f3 f2 ho'
theorem Lb{x y:Int}(hy:1<=y):Int.tdiv 9223372036854775807 y<x↔9223372036854775807<x*y:=by
 rw[Int.tdiv_eq_ediv_of_nonneg (by decide)];exact Int.ediv_lt_iff_lt_mul (by omega)
theorem Pr{x y:Int}(hy:1<=y):(Int.tmod 9223372036854775807 y=y - 1∧x=Int.tdiv 9223372036854775807 y+1)↔x*y=9223372036854775808:=by
 rw[Int.tdiv_eq_ediv_of_nonneg (by decide),Int.tmod_eq_emod_of_nonneg (by decide)];have hU:=Int.ediv_emod_unique (a:=9223372036854775807) (b:=y) (q:=x - 1) (r:=y - 1) (by omega);have hm:y*(x - 1)=x*y - y:=by rw[Int.mul_sub,Int.mul_one,Int.mul_comm]
 rw[hm] at hU;constructor
 ·rintro⟨h1,h2⟩;have:=(hU.1 ⟨by omega,h1⟩).1;omega
 ·intro h;have:=hU.2 ⟨by omega,by omega,by omega⟩;exact⟨this.2,by omega⟩
theorem Ps{y:Int}(hy:1<=y):0<=Int.tdiv 9223372036854775807 y∧Int.tdiv 9223372036854775807 y<=9223372036854775807∧0<=Int.tmod 9223372036854775807 y∧Int.tmod 9223372036854775807 y<y:=by
 rw[Int.tdiv_eq_ediv_of_nonneg (by decide),Int.tmod_eq_emod_of_nonneg (by decide)];exact⟨Int.ediv_nonneg (by decide) (by omega),Int.ediv_le_self _ (by decide),Int.emod_nonneg _ (by omega),Int.emod_lt_of_pos _ (by omega)⟩
theorem As{x:Int}(h:InR x):IntKind.i64.wrap x=x:=by rw[C9];exact wr64_in h
theorem M4{a b:Int}(ha:InR a)(hb:InR b)(w:World):Calls Tryz.prog 137 #[iv a,iv b] w fun e w'=>G8 (exR (a+b)) w e w':=by
 by_cases hi:InR (a+b)
 ·rw[B6 hi];obtain⟨s,hse⟩:∃s,a+b=s:=⟨_,rfl⟩;have hw:IntKind.i64.wrap (a+b)=s:=(As hi).trans hse;rw[hse];by_cases hp:0<b
  ·have p1:decide (0<b)=true:=by simpa using hp
   have p2:decide (b<0)=false:=by simp;omega
   obtain⟨q,hqe⟩:∃q,9223372036854775807 - b=q:=⟨_,rfl⟩;have hm:IntKind.i64.wrap (9223372036854775807 - b)=q:=(As (by unfold InR at *;omega)).trans hqe;have p3:decide (q<a)=false:=by unfold InR at hi;simp;omega
   clear hqe hse;clear hp hi ha hb;go_enter Tryz.func137,Tryz.ntmps137;go_wp2
   go_ret2
   exact⟨rfl,rfl⟩
  ·have p1:decide (0<b)=false:=by simpa using hp
   by_cases hn:b<0
   ·have p2:decide (b<0)=true:=by simpa using hn
    obtain⟨q,hqe⟩:∃q,-9223372036854775808 - b=q:=⟨_,rfl⟩;have hm:IntKind.i64.wrap (-9223372036854775808 - b)=q:=(As (by unfold InR at *;omega)).trans hqe;have p3:decide (a<q)=false:=by unfold InR at hi;simp;omega
    clear hqe hse;clear hp hi ha hb hn;go_enter Tryz.func137,Tryz.ntmps137;go_wp2
    go_ret2
    exact⟨rfl,rfl⟩
   ·have p2:decide (b<0)=false:=by simpa using hn
    clear hse hp hi ha hb hn;go_enter Tryz.func137,Tryz.ntmps137;go_wp2
    go_ret2
    exact⟨rfl,rfl⟩
 ·rw[B8 hi];by_cases hp:0<b
  ·have p1:decide (0<b)=true:=by simpa using hp
   obtain⟨q,hqe⟩:∃q,9223372036854775807 - b=q:=⟨_,rfl⟩;have hm:IntKind.i64.wrap (9223372036854775807 - b)=q:=(As (by unfold InR at *;omega)).trans hqe;have p3:decide (q<a)=true:=by unfold InR at *;simp;omega
   clear hqe;clear hp hi ha hb;go_enter Tryz.func137,Tryz.ntmps137;go_wp2
   go_ret2
   exact⟨rfl,rfl⟩
  ·have p1:decide (0<b)=false:=by simpa using hp
   have hn:b<0:=by unfold InR at *;omega
   have p2:decide (b<0)=true:=by simpa using hn
   obtain⟨q,hqe⟩:∃q,-9223372036854775808 - b=q:=⟨_,rfl⟩;have hm:IntKind.i64.wrap (-9223372036854775808 - b)=q:=(As (by unfold InR at *;omega)).trans hqe;have p3:decide (a<q)=true:=by unfold InR at *;simp;omega
   clear hqe;clear hp hi ha hb hn;go_enter Tryz.func137,Tryz.ntmps137;go_wp2
   go_ret2
   exact⟨rfl,rfl⟩
theorem Uh{a b:Int}(ha:0<a∧a<=9223372036854775807)(hb:0<b∧b<=9223372036854775807)(w:World):Calls Tryz.prog 138 #[iv a,iv b] w fun e w'=>G8 (exR (a*b)) w e w':=by
 have n1:(a == 0)=false:=by simp;omega
 have n2:(b == 0)=false:=by simp;omega
 have n3:(a == -9223372036854775808)=false:=by simp;omega
 have n4:(b == -9223372036854775808)=false:=by simp;omega
 have n5:decide (a<0)=false:=by simp;omega
 have n6:decide (b<0)=false:=by simp;omega
 have hX:1<=a∧a<=9223372036854775807:=by omega
 have hY:1<=b∧b<=9223372036854775807:=by omega
 have hP:a*b=(a*b):=rfl;have hPp:1<=a*b:=by have:=Int.mul_pos (a:=a) (b:=b) (by omega) (by omega);omega
 have yz:(b == 0)=false:=by simp;omega
 obtain⟨b1,b2,b3,b4⟩:=Ps hY.1;have t1:=Lb (x:=a) hY.1;have t2:=Pr (x:=a) hY.1;have hq:IntKind.i64.wrap (Int.tdiv 9223372036854775807 b)=Int.tdiv 9223372036854775807 b:=As (by unfold InR;omega);have hr:IntKind.i64.wrap (Int.tmod 9223372036854775807 b)=Int.tmod 9223372036854775807 b:=As (by unfold InR;omega);have hy1:IntKind.i64.wrap (b - 1)=b - 1:=As (by unfold InR;omega);obtain⟨P,hPe⟩:∃P,a*b=P:=⟨_,rfl⟩;obtain⟨q,hqe⟩:∃q,Int.tdiv 9223372036854775807 b=q:=⟨_,rfl⟩;obtain⟨r,hre⟩:∃r,Int.tmod 9223372036854775807 b=r:=⟨_,rfl⟩;obtain⟨y1,hy1e⟩:∃y1,b - 1=y1:=⟨_,rfl⟩;replace hq:=hq.trans hqe;replace hr:=hr.trans hre;replace hy1:=hy1.trans hy1e;replace hP:=hPe;rw[hPe] at hPp t1 t2;rw[hqe] at b1 b2 t1 t2;rw[hre] at b3 b4 t2;rw[hy1e] at t2;have hpw:P<=9223372036854775807->IntKind.i64.wrap (a*b)=P:=fun h=>(As (by unfold InR;omega)).trans hPe
 rw[hP];have yn:¬b=0:=by omega
 have hre2:9223372036854775807 % b=r:=by rw[<-hre,Int.tmod_eq_emod_of_nonneg (by decide)]
 have hqe2:9223372036854775807 / b=q:=by rw[<-hqe,Int.tdiv_eq_ediv_of_nonneg (by decide)]
 have hqw:IntKind.i64.wrap q=q:=As (by unfold InR;omega);by_cases c1:q<a
 ·have d1:decide (q<a)=true:=by simpa using c1
  have hPo:=t1.1 c1;rw[B8 (by unfold InR;omega)];clear ha hb hX hY hP hPp b1 b2 b3 b4 t1 t2 hy1e hPe c1 hpw hPo;go_enter Tryz.func138,Tryz.ntmps138;go_wp2
  go_ret2
  exact⟨rfl,rfl⟩
 ·have d1:decide (q<a)=false:=by simpa using c1
  have hPo:P<=9223372036854775807:=by have:=mt t1.2 c1;omega
  have hp:=hpw hPo;rw[B6 (by unfold InR;omega)];clear ha hb hX hY hP hPp b1 b2 b3 b4 t1 t2 hy1e hPe c1 hpw hPo;go_enter Tryz.func138,Tryz.ntmps138;go_wp2
  go_ret2
  exact⟨rfl,rfl⟩
theorem Ui{a b:Int}(ha:0<a∧a<=9223372036854775807)(hb:-9223372036854775808<b∧b<0)(w:World):Calls Tryz.prog 138 #[iv a,iv b] w fun e w'=>G8 (exR (a*b)) w e w':=by
 have n1:(a == 0)=false:=by simp;omega
 have n2:(b == 0)=false:=by simp;omega
 have n3:(a == -9223372036854775808)=false:=by simp;omega
 have n4:(b == -9223372036854775808)=false:=by simp;omega
 have n5:decide (a<0)=false:=by simp;omega
 have n6:decide (b<0)=true:=by simp;omega
 have hyw:IntKind.i64.wrap (-b)=-b:=As (by unfold InR;omega);obtain⟨y,hy⟩:∃y,-b=y:=⟨_,rfl⟩;replace hyw:=hyw.trans hy;have hX:1<=a∧a<=9223372036854775807:=by omega
 have hY:1<=y∧y<=9223372036854775807:=by omega
 have hP:a*b=-(a*y):=by rw[<-hy,Int.mul_neg,Int.neg_neg]
 have hPp:1<=a*y:=by have:=Int.mul_pos (a:=a) (b:=y) (by omega) (by omega);omega
 have yz:(y == 0)=false:=by simp;omega
 obtain⟨b1,b2,b3,b4⟩:=Ps hY.1;have t1:=Lb (x:=a) hY.1;have t2:=Pr (x:=a) hY.1;have hq:IntKind.i64.wrap (Int.tdiv 9223372036854775807 y)=Int.tdiv 9223372036854775807 y:=As (by unfold InR;omega);have hr:IntKind.i64.wrap (Int.tmod 9223372036854775807 y)=Int.tmod 9223372036854775807 y:=As (by unfold InR;omega);have hy1:IntKind.i64.wrap (y - 1)=y - 1:=As (by unfold InR;omega);obtain⟨P,hPe⟩:∃P,a*y=P:=⟨_,rfl⟩;obtain⟨q,hqe⟩:∃q,Int.tdiv 9223372036854775807 y=q:=⟨_,rfl⟩;obtain⟨r,hre⟩:∃r,Int.tmod 9223372036854775807 y=r:=⟨_,rfl⟩;obtain⟨y1,hy1e⟩:∃y1,y - 1=y1:=⟨_,rfl⟩;replace hq:=hq.trans hqe;replace hr:=hr.trans hre;replace hy1:=hy1.trans hy1e;rw[hPe] at hP;rw[hPe] at hPp t1 t2;rw[hqe] at b1 b2 t1 t2;rw[hre] at b3 b4 t2;rw[hy1e] at t2;have hpw:P<=9223372036854775807->IntKind.i64.wrap (a*y)=P:=fun h=>(As (by unfold InR;omega)).trans hPe
 rw[hP];have yn:¬y=0:=by omega
 have hre2:9223372036854775807 % y=r:=by rw[<-hre,Int.tmod_eq_emod_of_nonneg (by decide)]
 have hqe2:9223372036854775807 / y=q:=by rw[<-hqe,Int.tdiv_eq_ediv_of_nonneg (by decide)]
 have hqw:IntKind.i64.wrap q=q:=As (by unfold InR;omega);by_cases c1:q<a
 ·have d1:decide (q<a)=true:=by simpa using c1
  have hPo:=t1.1 c1;have hq1:IntKind.i64.wrap (q+1)=q+1:=As (by unfold InR;omega);obtain⟨q1,hq1e⟩:∃q1,q+1=q1:=⟨_,rfl⟩;replace hq1:=hq1.trans hq1e;rw[hq1e] at t2;by_cases c2:r=y1
  ·have d2:(r == y1)=true:=by simpa using c2
   by_cases c3:a=q1
   ·have d3:(a == q1)=true:=by simpa using c3
    have hE:=t2.1 ⟨c2,c3⟩;rw[B6 (by unfold InR;omega)];have hEn:-P=-9223372036854775808:=by omega
    rw[hEn];clear ha hb hX hY hP hPp b1 b2 b3 b4 t1 t2 hy1e hPe c1 hpw hy hPo hq1e c2 c3 hE hEn;go_enter Tryz.func138,Tryz.ntmps138;go_wp2
    go_ret2
    exact⟨rfl,rfl⟩
   ·have d3:(a == q1)=false:=by simpa using c3
    have hE:P≠9223372036854775808:=fun h=>c3 (t2.2 h).2
    rw[B8 (by unfold InR;omega)];clear ha hb hX hY hP hPp b1 b2 b3 b4 t1 t2 hy1e hPe c1 hpw hy hPo hq1e c2 c3 hE;go_enter Tryz.func138,Tryz.ntmps138;go_wp2
    go_ret2
    exact⟨rfl,rfl⟩
  ·have d2:(r == y1)=false:=by simpa using c2
   have hE:P≠9223372036854775808:=fun h=>c2 (t2.2 h).1
   rw[B8 (by unfold InR;omega)];clear ha hb hX hY hP hPp b1 b2 b3 b4 t1 t2 hy1e hPe c1 hpw hy hPo hq1e c2 hE;go_enter Tryz.func138,Tryz.ntmps138;go_wp2
   go_ret2
   exact⟨rfl,rfl⟩
 ·have d1:decide (q<a)=false:=by simpa using c1
  have hPo:P<=9223372036854775807:=by have:=mt t1.2 c1;omega
  have hp:=hpw hPo;rw[B6 (by unfold InR;omega)];have hpn:IntKind.i64.wrap (-P)=-P:=As (by unfold InR;omega);obtain⟨n,hne⟩:∃n,-P=n:=⟨_,rfl⟩;replace hpn:=hpn.trans hne;rw[hne];clear hne;clear ha hb hX hY hP hPp b1 b2 b3 b4 t1 t2 hy1e hPe c1 hpw hy hPo;go_enter Tryz.func138,Tryz.ntmps138;go_wp2
  go_ret2
  exact⟨rfl,rfl⟩
theorem Uj{a b:Int}(ha:-9223372036854775808<a∧a<0)(hb:0<b∧b<=9223372036854775807)(w:World):Calls Tryz.prog 138 #[iv a,iv b] w fun e w'=>G8 (exR (a*b)) w e w':=by
 have n1:(a == 0)=false:=by simp;omega
 have n2:(b == 0)=false:=by simp;omega
 have n3:(a == -9223372036854775808)=false:=by simp;omega
 have n4:(b == -9223372036854775808)=false:=by simp;omega
 have n5:decide (a<0)=true:=by simp;omega
 have n6:decide (b<0)=false:=by simp;omega
 have hxw:IntKind.i64.wrap (-a)=-a:=As (by unfold InR;omega);obtain⟨x,hx⟩:∃x,-a=x:=⟨_,rfl⟩;replace hxw:=hxw.trans hx;have hX:1<=x∧x<=9223372036854775807:=by omega
 have hY:1<=b∧b<=9223372036854775807:=by omega
 have hP:a*b=-(x*b):=by rw[<-hx,Int.neg_mul,Int.neg_neg]
 have hPp:1<=x*b:=by have:=Int.mul_pos (a:=x) (b:=b) (by omega) (by omega);omega
 have yz:(b == 0)=false:=by simp;omega
 obtain⟨b1,b2,b3,b4⟩:=Ps hY.1;have t1:=Lb (x:=x) hY.1;have t2:=Pr (x:=x) hY.1;have hq:IntKind.i64.wrap (Int.tdiv 9223372036854775807 b)=Int.tdiv 9223372036854775807 b:=As (by unfold InR;omega);have hr:IntKind.i64.wrap (Int.tmod 9223372036854775807 b)=Int.tmod 9223372036854775807 b:=As (by unfold InR;omega);have hy1:IntKind.i64.wrap (b - 1)=b - 1:=As (by unfold InR;omega);obtain⟨P,hPe⟩:∃P,x*b=P:=⟨_,rfl⟩;obtain⟨q,hqe⟩:∃q,Int.tdiv 9223372036854775807 b=q:=⟨_,rfl⟩;obtain⟨r,hre⟩:∃r,Int.tmod 9223372036854775807 b=r:=⟨_,rfl⟩;obtain⟨y1,hy1e⟩:∃y1,b - 1=y1:=⟨_,rfl⟩;replace hq:=hq.trans hqe;replace hr:=hr.trans hre;replace hy1:=hy1.trans hy1e;rw[hPe] at hP;rw[hPe] at hPp t1 t2;rw[hqe] at b1 b2 t1 t2;rw[hre] at b3 b4 t2;rw[hy1e] at t2;have hpw:P<=9223372036854775807->IntKind.i64.wrap (x*b)=P:=fun h=>(As (by unfold InR;omega)).trans hPe
 rw[hP];have yn:¬b=0:=by omega
 have hre2:9223372036854775807 % b=r:=by rw[<-hre,Int.tmod_eq_emod_of_nonneg (by decide)]
 have hqe2:9223372036854775807 / b=q:=by rw[<-hqe,Int.tdiv_eq_ediv_of_nonneg (by decide)]
 have hqw:IntKind.i64.wrap q=q:=As (by unfold InR;omega);by_cases c1:q<x
 ·have d1:decide (q<x)=true:=by simpa using c1
  have hPo:=t1.1 c1;have hq1:IntKind.i64.wrap (q+1)=q+1:=As (by unfold InR;omega);obtain⟨q1,hq1e⟩:∃q1,q+1=q1:=⟨_,rfl⟩;replace hq1:=hq1.trans hq1e;rw[hq1e] at t2;by_cases c2:r=y1
  ·have d2:(r == y1)=true:=by simpa using c2
   by_cases c3:x=q1
   ·have d3:(x == q1)=true:=by simpa using c3
    have hE:=t2.1 ⟨c2,c3⟩;rw[B6 (by unfold InR;omega)];have hEn:-P=-9223372036854775808:=by omega
    rw[hEn];clear ha hb hX hY hP hPp b1 b2 b3 b4 t1 t2 hy1e hPe c1 hpw hx hPo hq1e c2 c3 hE hEn;go_enter Tryz.func138,Tryz.ntmps138;go_wp2
    go_ret2
    exact⟨rfl,rfl⟩
   ·have d3:(x == q1)=false:=by simpa using c3
    have hE:P≠9223372036854775808:=fun h=>c3 (t2.2 h).2
    rw[B8 (by unfold InR;omega)];clear ha hb hX hY hP hPp b1 b2 b3 b4 t1 t2 hy1e hPe c1 hpw hx hPo hq1e c2 c3 hE;go_enter Tryz.func138,Tryz.ntmps138;go_wp2
    go_ret2
    exact⟨rfl,rfl⟩
  ·have d2:(r == y1)=false:=by simpa using c2
   have hE:P≠9223372036854775808:=fun h=>c2 (t2.2 h).1
   rw[B8 (by unfold InR;omega)];clear ha hb hX hY hP hPp b1 b2 b3 b4 t1 t2 hy1e hPe c1 hpw hx hPo hq1e c2 hE;go_enter Tryz.func138,Tryz.ntmps138;go_wp2
   go_ret2
   exact⟨rfl,rfl⟩
 ·have d1:decide (q<x)=false:=by simpa using c1
  have hPo:P<=9223372036854775807:=by have:=mt t1.2 c1;omega
  have hp:=hpw hPo;rw[B6 (by unfold InR;omega)];have hpn:IntKind.i64.wrap (-P)=-P:=As (by unfold InR;omega);obtain⟨n,hne⟩:∃n,-P=n:=⟨_,rfl⟩;replace hpn:=hpn.trans hne;rw[hne];clear hne;clear ha hb hX hY hP hPp b1 b2 b3 b4 t1 t2 hy1e hPe c1 hpw hx hPo;go_enter Tryz.func138,Tryz.ntmps138;go_wp2
  go_ret2
  exact⟨rfl,rfl⟩
theorem Uk{a b:Int}(ha:-9223372036854775808<a∧a<0)(hb:-9223372036854775808<b∧b<0)(w:World):Calls Tryz.prog 138 #[iv a,iv b] w fun e w'=>G8 (exR (a*b)) w e w':=by
 have n1:(a == 0)=false:=by simp;omega
 have n2:(b == 0)=false:=by simp;omega
 have n3:(a == -9223372036854775808)=false:=by simp;omega
 have n4:(b == -9223372036854775808)=false:=by simp;omega
 have n5:decide (a<0)=true:=by simp;omega
 have n6:decide (b<0)=true:=by simp;omega
 have hxw:IntKind.i64.wrap (-a)=-a:=As (by unfold InR;omega);have hyw:IntKind.i64.wrap (-b)=-b:=As (by unfold InR;omega);obtain⟨x,hx⟩:∃x,-a=x:=⟨_,rfl⟩;replace hxw:=hxw.trans hx;obtain⟨y,hy⟩:∃y,-b=y:=⟨_,rfl⟩;replace hyw:=hyw.trans hy;have hX:1<=x∧x<=9223372036854775807:=by omega
 have hY:1<=y∧y<=9223372036854775807:=by omega
 have hP:a*b=(x*y):=by rw[<-hx,<-hy,Int.neg_mul_neg]
 have hPp:1<=x*y:=by have:=Int.mul_pos (a:=x) (b:=y) (by omega) (by omega);omega
 have yz:(y == 0)=false:=by simp;omega
 obtain⟨b1,b2,b3,b4⟩:=Ps hY.1;have t1:=Lb (x:=x) hY.1;have t2:=Pr (x:=x) hY.1;have hq:IntKind.i64.wrap (Int.tdiv 9223372036854775807 y)=Int.tdiv 9223372036854775807 y:=As (by unfold InR;omega);have hr:IntKind.i64.wrap (Int.tmod 9223372036854775807 y)=Int.tmod 9223372036854775807 y:=As (by unfold InR;omega);have hy1:IntKind.i64.wrap (y - 1)=y - 1:=As (by unfold InR;omega);obtain⟨P,hPe⟩:∃P,x*y=P:=⟨_,rfl⟩;obtain⟨q,hqe⟩:∃q,Int.tdiv 9223372036854775807 y=q:=⟨_,rfl⟩;obtain⟨r,hre⟩:∃r,Int.tmod 9223372036854775807 y=r:=⟨_,rfl⟩;obtain⟨y1,hy1e⟩:∃y1,y - 1=y1:=⟨_,rfl⟩;replace hq:=hq.trans hqe;replace hr:=hr.trans hre;replace hy1:=hy1.trans hy1e;rw[hPe] at hP;rw[hPe] at hPp t1 t2;rw[hqe] at b1 b2 t1 t2;rw[hre] at b3 b4 t2;rw[hy1e] at t2;have hpw:P<=9223372036854775807->IntKind.i64.wrap (x*y)=P:=fun h=>(As (by unfold InR;omega)).trans hPe
 rw[hP];have yn:¬y=0:=by omega
 have hre2:9223372036854775807 % y=r:=by rw[<-hre,Int.tmod_eq_emod_of_nonneg (by decide)]
 have hqe2:9223372036854775807 / y=q:=by rw[<-hqe,Int.tdiv_eq_ediv_of_nonneg (by decide)]
 have hqw:IntKind.i64.wrap q=q:=As (by unfold InR;omega);by_cases c1:q<x
 ·have d1:decide (q<x)=true:=by simpa using c1
  have hPo:=t1.1 c1;rw[B8 (by unfold InR;omega)];clear ha hb hX hY hP hPp b1 b2 b3 b4 t1 t2 hy1e hPe c1 hpw hx hy hPo;go_enter Tryz.func138,Tryz.ntmps138;go_wp2
  go_ret2
  exact⟨rfl,rfl⟩
 ·have d1:decide (q<x)=false:=by simpa using c1
  have hPo:P<=9223372036854775807:=by have:=mt t1.2 c1;omega
  have hp:=hpw hPo;rw[B6 (by unfold InR;omega)];clear ha hb hX hY hP hPp b1 b2 b3 b4 t1 t2 hy1e hPe c1 hpw hx hy hPo;go_enter Tryz.func138,Tryz.ntmps138;go_wp2
  go_ret2
  exact⟨rfl,rfl⟩
theorem Ov{a b:Int}(ha:InR a)(hb:InR b)(w:World):Calls Tryz.prog 138 #[iv a,iv b] w fun e w'=>G8 (exR (a*b)) w e w':=by
 by_cases z1:a=0
 ·subst z1;rw[Int.zero_mul,B6 (by unfold InR;omega)];go_enter Tryz.func138,Tryz.ntmps138;go_wp2
  go_ret2
  exact⟨rfl,rfl⟩
 have n1:(a == 0)=false:=by simpa using z1
 by_cases z2:b=0
 ·subst z2;rw[Int.mul_zero,B6 (by unfold InR;omega)];clear z1;go_enter Tryz.func138,Tryz.ntmps138;go_wp2
  go_ret2
  exact⟨rfl,rfl⟩
 have n2:(b == 0)=false:=by simpa using z2
 by_cases l1:a=-9223372036854775808
 ·subst l1;by_cases o1:b=1
  ·subst o1;rw[Int.mul_one,B6 (by unfold InR;omega)];clear z1 z2;go_enter Tryz.func138,Tryz.ntmps138;go_wp2
   go_ret2
   exact⟨rfl,rfl⟩
  ·have o2:(b == 1)=false:=by simpa using o1
   rw[B8 (by unfold InR;omega)];clear z1 z2 o1;go_enter Tryz.func138,Tryz.ntmps138;go_wp2
   go_ret2
   exact⟨rfl,rfl⟩
 have n3:(a == -9223372036854775808)=false:=by simpa using l1
 by_cases l2:b=-9223372036854775808
 ·subst l2;by_cases o1:a=1
  ·subst o1;rw[Int.one_mul,B6 (by unfold InR;omega)];clear z1 z2 l1;go_enter Tryz.func138,Tryz.ntmps138;go_wp2
   go_ret2
   exact⟨rfl,rfl⟩
  ·have o2:(a == 1)=false:=by simpa using o1
   rw[B8 (by unfold InR;omega)];clear z1 z2 o1 l1;go_enter Tryz.func138,Tryz.ntmps138;go_wp2
   go_ret2
   exact⟨rfl,rfl⟩
 unfold InR at ha hb;by_cases s1:a<0
 ·by_cases s2:b<0
  ·exact Uk ⟨by omega,s1⟩ ⟨by omega,s2⟩ w
  ·exact Uj ⟨by omega,s1⟩ ⟨by omega,by omega⟩ w
 ·by_cases s2:b<0
  ·exact Ui ⟨by omega,by omega⟩ ⟨by omega,s2⟩ w
  ·exact Uh ⟨by omega,by omega⟩ ⟨by omega,by omega⟩ w
end
end Go.Proofs.YtnijcolomoobnaaGreatDoor
