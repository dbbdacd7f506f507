/- Texts of ours, joined. -/
import Derived.Test.YtnijcolomoobnaaGreatDoorU24
set_option linter.unusedVariables false
set_option linter.unusedSimpArgs false
set_option maxRecDepth 100000
set_option maxHeartbeats 16000000
namespace Go.Proofs.YtnijcolomoobnaaGreatDoor
section
open Go.RowKit
attribute [local go_sem ↓] Go.wp_at_zero Go.wp_at_succ
theorem Uo{B:Nat->Prop}{a b:V}{sa sb:Value}{w:World}(ha:IsW B w a sa)(hb:IsW B w b sb)(f0:(a.k != b.k)=false)(f1:(a.k != 1)=false)(f2:(a.k == 3)=false):Calls Tryz.prog 105 #[iv 9,.agg #[iv a.k,iv a.n,bz a.t,sa],.agg #[iv b.k,iv b.n,bz b.t,sb]] w fun r w'=>Bg (numV (exR (a.n+b.n))) w r w':=by
 obtain⟨w0,w1,w2,hW0,hW1,hW2,hs0,hs1,hs2,hB,hx0,d0,d1,d2,d3,g0,g1,g2,g3⟩:=Cz w a sa b sb;have hC:=Aq (ha.below hB) (hb.below hB);generalize cmpV a b=c at *;have hN:=fun w=>M4 ha.nr hb.nr w
 obtain⟨⟨n,e⟩,hX⟩:∃X,(exR (a.n+b.n))=X:=⟨_,rfl⟩;rw[hX];simp only[hX] at hN;clear ha hb hX;by_cases he:e=0
 ·subst he;have hv:numV (n,0)=(nV n,0):=by unfold numV;rfl
  rw[hv];clear hv;go_enter Tryz.func105,Tryz.ntmps105;go_wp2_with fail;refine hC.mono ?_;rintro r w3 ⟨rfl,hb3⟩;clear hC;have hKp:=Cf hb3 hs2 d0 d1 d2 g1 g2;clear d0 d1 d2 g1 g2;obtain⟨k0,k1,k2,k3,d0,d1,d2,g1,g2⟩:=hKp;go_wp2_with fail;refine (hN w3).mono ?_;rintro r w4 ⟨rfl,hw4⟩;obtain rfl:=hw4.symm;clear hN;go_wp2_with fail;refine (B7 n w3).mono ?_;rintro r w5 ⟨rfl,hb5'⟩;have hb5:Below w2.heap.size w2 w5:=hb3.trans (hb5'.mono hb3.size);obtain⟨wN,hWN,⟨s0,s1,s2,s3,t0,t1,t2,t3⟩,hlw,⟨m0,m1,m2,m3⟩,hlN,hbN⟩:=B3 hx0 hB hb5 (iv 1) (iv n) (.string ⟨#[]⟩) sZ;clear hx0 hb5';go_wp2_with fail;exact bodyPost_ret (v:=.tuple #[.agg #[iv 1,iv n,.string ⟨#[]⟩,sZ],iv 0]) (by simp[results,Tryz.results105,go_sem,hlN,m0,m1,m2,m3]) rfl ⟨rfl,hbN⟩
 ·have hv:numV (n,e)=(zV,e):=by unfold numV;rw[if_neg he]
  rw[hv];have heb:(e != 0)=true:=by simpa using he
  clear hv he;go_enter Tryz.func105,Tryz.ntmps105;go_wp2_with fail;refine hC.mono ?_;rintro r w3 ⟨rfl,hb3⟩;clear hC;have hKp:=Cf hb3 hs2 d0 d1 d2 g1 g2;clear d0 d1 d2 g1 g2;obtain⟨k0,k1,k2,k3,d0,d1,d2,g1,g2⟩:=hKp;go_wp2_with fail;refine (hN w3).mono ?_;rintro r w4 ⟨rfl,hw4⟩;obtain rfl:=hw4.symm;clear hN;obtain⟨wN,hWN,⟨s0,s1,s2,s3,t0,t1,t2,t3⟩,hlw,⟨m0,m1,m2,m3⟩,hlN,hbN⟩:=B3 hx0 hB hb3 (iv 0) (iv 0) (.string ⟨#[]⟩) sZ;clear hx0;go_wp2_with fail;exact bodyPost_ret (v:=.tuple #[.agg #[iv 0,iv 0,.string ⟨#[]⟩,sZ],iv e]) (by simp[results,Tryz.results105,go_sem,hlN,m0,m1,m2,m3]) rfl ⟨rfl,hbN⟩
theorem Uq{B:Nat->Prop}{a b:V}{sa sb:Value}{w:World}(ha:IsW B w a sa)(hb:IsW B w b sb)(f0:(a.k != b.k)=false)(f1:(a.k != 1)=false)(f2:(a.k == 3)=false):Calls Tryz.prog 105 #[iv 11,.agg #[iv a.k,iv a.n,bz a.t,sa],.agg #[iv b.k,iv b.n,bz b.t,sb]] w fun r w'=>Bg (numV (exR (a.n*b.n))) w r w':=by
 obtain⟨w0,w1,w2,hW0,hW1,hW2,hs0,hs1,hs2,hB,hx0,d0,d1,d2,d3,g0,g1,g2,g3⟩:=Cz w a sa b sb;have hC:=Aq (ha.below hB) (hb.below hB);generalize cmpV a b=c at *;have hN:=fun w=>Ov ha.nr hb.nr w
 obtain⟨⟨n,e⟩,hX⟩:∃X,(exR (a.n*b.n))=X:=⟨_,rfl⟩;rw[hX];simp only[hX] at hN;clear ha hb hX;by_cases he:e=0
 ·subst he;have hv:numV (n,0)=(nV n,0):=by unfold numV;rfl
  rw[hv];clear hv;go_enter Tryz.func105,Tryz.ntmps105;go_wp2_with fail;refine hC.mono ?_;rintro r w3 ⟨rfl,hb3⟩;clear hC;have hKp:=Cf hb3 hs2 d0 d1 d2 g1 g2;clear d0 d1 d2 g1 g2;obtain⟨k0,k1,k2,k3,d0,d1,d2,g1,g2⟩:=hKp;go_wp2_with fail;refine (hN w3).mono ?_;rintro r w4 ⟨rfl,hw4⟩;obtain rfl:=hw4.symm;clear hN;go_wp2_with fail;refine (B7 n w3).mono ?_;rintro r w5 ⟨rfl,hb5'⟩;have hb5:Below w2.heap.size w2 w5:=hb3.trans (hb5'.mono hb3.size);obtain⟨wN,hWN,⟨s0,s1,s2,s3,t0,t1,t2,t3⟩,hlw,⟨m0,m1,m2,m3⟩,hlN,hbN⟩:=B3 hx0 hB hb5 (iv 1) (iv n) (.string ⟨#[]⟩) sZ;clear hx0 hb5';go_wp2_with fail;exact bodyPost_ret (v:=.tuple #[.agg #[iv 1,iv n,.string ⟨#[]⟩,sZ],iv 0]) (by simp[results,Tryz.results105,go_sem,hlN,m0,m1,m2,m3]) rfl ⟨rfl,hbN⟩
 ·have hv:numV (n,e)=(zV,e):=by unfold numV;rw[if_neg he]
  rw[hv];have heb:(e != 0)=true:=by simpa using he
  clear hv he;go_enter Tryz.func105,Tryz.ntmps105;go_wp2_with fail;refine hC.mono ?_;rintro r w3 ⟨rfl,hb3⟩;clear hC;have hKp:=Cf hb3 hs2 d0 d1 d2 g1 g2;clear d0 d1 d2 g1 g2;obtain⟨k0,k1,k2,k3,d0,d1,d2,g1,g2⟩:=hKp;go_wp2_with fail;refine (hN w3).mono ?_;rintro r w4 ⟨rfl,hw4⟩;obtain rfl:=hw4.symm;clear hN;obtain⟨wN,hWN,⟨s0,s1,s2,s3,t0,t1,t2,t3⟩,hlw,⟨m0,m1,m2,m3⟩,hlN,hbN⟩:=B3 hx0 hB hb3 (iv 0) (iv 0) (.string ⟨#[]⟩) sZ;clear hx0;go_wp2_with fail;exact bodyPost_ret (v:=.tuple #[.agg #[iv 0,iv 0,.string ⟨#[]⟩,sZ],iv e]) (by simp[results,Tryz.results105,go_sem,hlN,m0,m1,m2,m3]) rfl ⟨rfl,hbN⟩
theorem Ur{B:Nat->Prop}{a b:V}{sa sb:Value}{w:World}(ha:IsW B w a sa)(hb:IsW B w b sb)(f0:(a.k != b.k)=false)(f1:(a.k != 1)=false)(f2:(a.k == 3)=false)(hbn:b.n≠-9223372036854775808):Calls Tryz.prog 105 #[iv 10,.agg #[iv a.k,iv a.n,bz a.t,sa],.agg #[iv b.k,iv b.n,bz b.t,sb]] w fun r w'=>Bg (numV (exR (a.n - b.n))) w r w':=by
 obtain⟨w0,w1,w2,hW0,hW1,hW2,hs0,hs1,hs2,hB,hx0,d0,d1,d2,d3,g0,g1,g2,g3⟩:=Cz w a sa b sb;have hC:=Aq (ha.below hB) (hb.below hB);generalize cmpV a b=c at *;have hmb:(b.n == -9223372036854775808)=false:=by simpa using hbn
 have hng:InR (-b.n):=by have:=hb.nr;unfold InR at *;omega
 have hN:=fun w=>M4 ha.nr hng w
 have hsb:a.n + -b.n=a.n - b.n:=by omega
 rw[hsb] at hN;obtain⟨y,hy⟩:∃y,-b.n=y:=⟨_,rfl⟩;have hyw:IntKind.i64.wrap (-b.n)=y:=(As hng).trans hy;rw[hy] at hN;obtain⟨⟨n,e⟩,hX⟩:∃X,(exR (a.n - b.n))=X:=⟨_,rfl⟩;rw[hX];simp only[hX] at hN;clear ha hb hX hbn hng hsb hy;by_cases he:e=0
 ·subst he;have hv:numV (n,0)=(nV n,0):=by unfold numV;rfl
  rw[hv];clear hv;go_enter Tryz.func105,Tryz.ntmps105;go_wp2_with fail;refine hC.mono ?_;rintro r w3 ⟨rfl,hb3⟩;clear hC;have hKp:=Cf hb3 hs2 d0 d1 d2 g1 g2;clear d0 d1 d2 g1 g2;obtain⟨k0,k1,k2,k3,d0,d1,d2,g1,g2⟩:=hKp;go_wp2_with fail;refine (hN w3).mono ?_;rintro r w4 ⟨rfl,hw4⟩;obtain rfl:=hw4.symm;clear hN;go_wp2_with fail;refine (B7 n w3).mono ?_;rintro r w5 ⟨rfl,hb5'⟩;have hb5:Below w2.heap.size w2 w5:=hb3.trans (hb5'.mono hb3.size);obtain⟨wN,hWN,⟨s0,s1,s2,s3,t0,t1,t2,t3⟩,hlw,⟨m0,m1,m2,m3⟩,hlN,hbN⟩:=B3 hx0 hB hb5 (iv 1) (iv n) (.string ⟨#[]⟩) sZ;clear hx0 hb5';go_wp2_with fail;exact bodyPost_ret (v:=.tuple #[.agg #[iv 1,iv n,.string ⟨#[]⟩,sZ],iv 0]) (by simp[results,Tryz.results105,go_sem,hlN,m0,m1,m2,m3]) rfl ⟨rfl,hbN⟩
 ·have hv:numV (n,e)=(zV,e):=by unfold numV;rw[if_neg he]
  rw[hv];have heb:(e != 0)=true:=by simpa using he
  clear hv he;go_enter Tryz.func105,Tryz.ntmps105;go_wp2_with fail;refine hC.mono ?_;rintro r w3 ⟨rfl,hb3⟩;clear hC;have hKp:=Cf hb3 hs2 d0 d1 d2 g1 g2;clear d0 d1 d2 g1 g2;obtain⟨k0,k1,k2,k3,d0,d1,d2,g1,g2⟩:=hKp;go_wp2_with fail;refine (hN w3).mono ?_;rintro r w4 ⟨rfl,hw4⟩;obtain rfl:=hw4.symm;clear hN;obtain⟨wN,hWN,⟨s0,s1,s2,s3,t0,t1,t2,t3⟩,hlw,⟨m0,m1,m2,m3⟩,hlN,hbN⟩:=B3 hx0 hB hb3 (iv 0) (iv 0) (.string ⟨#[]⟩) sZ;clear hx0;go_wp2_with fail;exact bodyPost_ret (v:=.tuple #[.agg #[iv 0,iv 0,.string ⟨#[]⟩,sZ],iv e]) (by simp[results,Tryz.results105,go_sem,hlN,m0,m1,m2,m3]) rfl ⟨rfl,hbN⟩
theorem Ra{B:Nat->Prop}{a b:V}{sa sb:Value}{w:World}(ha:IsW B w a sa)(hb:IsW B w b sb)(f0:(a.k != b.k)=false)(f1:(a.k != 1)=false)(f2:(a.k == 3)=false)(hbn:b.n=-9223372036854775808)(han:0<=a.n):Calls Tryz.prog 105 #[iv 10,.agg #[iv a.k,iv a.n,bz a.t,sa],.agg #[iv b.k,iv b.n,bz b.t,sb]] w fun r w'=>Bg (numV (exR (a.n - b.n))) w r w':=by
 obtain⟨w0,w1,w2,hW0,hW1,hW2,hs0,hs1,hs2,hB,hx0,d0,d1,d2,d3,g0,g1,g2,g3⟩:=Cz w a sa b sb;have hC:=Aq (ha.below hB) (hb.below hB);generalize cmpV a b=c at *;have hmb:(b.n == -9223372036854775808)=true:=by simp[hbn]
 have hp:decide (0<=a.n)=true:=by simpa using han
 rw[B8 (by have:=ha.nr;unfold InR at *;omega)];show Calls Tryz.prog 105 _ w fun r w'=>Bg (zV,50) w r w'
 clear ha hb hbn han;go_enter Tryz.func105,Tryz.ntmps105;go_wp2_with fail;refine hC.mono ?_;rintro r w3 ⟨rfl,hb3⟩;clear hC;have hKp:=Cf hb3 hs2 d0 d1 d2 g1 g2;clear d0 d1 d2 g1 g2;obtain⟨k0,k1,k2,k3,d0,d1,d2,g1,g2⟩:=hKp;obtain⟨wN,hWN,⟨s0,s1,s2,s3,t0,t1,t2,t3⟩,hlw,⟨m0,m1,m2,m3⟩,hlN,hbN⟩:=B3 hx0 hB hb3 (iv 0) (iv 0) (.string ⟨#[]⟩) sZ;clear hx0;go_wp2_with fail;exact bodyPost_ret (v:=.tuple #[.agg #[iv 0,iv 0,.string ⟨#[]⟩,sZ],iv 50]) (by simp[results,Tryz.results105,go_sem,hlN,m0,m1,m2,m3]) rfl ⟨rfl,hbN⟩
theorem Rb{B:Nat->Prop}{a b:V}{sa sb:Value}{w:World}(ha:IsW B w a sa)(hb:IsW B w b sb)(f0:(a.k != b.k)=false)(f1:(a.k != 1)=false)(f2:(a.k == 3)=false)(hbn:b.n=-9223372036854775808)(han:¬0<=a.n):Calls Tryz.prog 105 #[iv 10,.agg #[iv a.k,iv a.n,bz a.t,sa],.agg #[iv b.k,iv b.n,bz b.t,sb]] w fun r w'=>Bg (numV (exR (a.n - b.n))) w r w':=by
 obtain⟨w0,w1,w2,hW0,hW1,hW2,hs0,hs1,hs2,hB,hx0,d0,d1,d2,d3,g0,g1,g2,g3⟩:=Cz w a sa b sb;have hC:=Aq (ha.below hB) (hb.below hB);generalize cmpV a b=c at *;have hmb:(b.n == -9223372036854775808)=true:=by simp[hbn]
 have hp:decide (0<=a.n)=false:=by simpa using han
 obtain⟨y,hy⟩:∃y,a.n+9223372036854775807=y:=⟨_,rfl⟩;obtain⟨n,hn⟩:∃n,y+1=n:=⟨_,rfl⟩;have hyw:IntKind.i64.wrap (a.n+9223372036854775807)=y:=(As (by have:=ha.nr;unfold InR at *;omega)).trans hy;have hnw:IntKind.i64.wrap (y+1)=n:=(As (by have:=ha.nr;unfold InR at *;omega)).trans hn;rw[B6 (by have:=ha.nr;unfold InR at *;omega),show a.n - b.n=n by omega];show Calls Tryz.prog 105 _ w fun r w'=>Bg (nV n,0) w r w'
 clear ha hb hbn han hy hn;go_enter Tryz.func105,Tryz.ntmps105;go_wp2_with fail;refine hC.mono ?_;rintro r w3 ⟨rfl,hb3⟩;clear hC;have hKp:=Cf hb3 hs2 d0 d1 d2 g1 g2;clear d0 d1 d2 g1 g2;obtain⟨k0,k1,k2,k3,d0,d1,d2,g1,g2⟩:=hKp;go_wp2_with fail;refine (B7 n w3).mono ?_;rintro r w5 ⟨rfl,hb5'⟩;have hb5:Below w2.heap.size w2 w5:=hb3.trans (hb5'.mono hb3.size);obtain⟨wN,hWN,⟨s0,s1,s2,s3,t0,t1,t2,t3⟩,hlw,⟨m0,m1,m2,m3⟩,hlN,hbN⟩:=B3 hx0 hB hb5 (iv 1) (iv n) (.string ⟨#[]⟩) sZ;clear hx0 hb5';go_wp2_with fail;exact bodyPost_ret (v:=.tuple #[.agg #[iv 1,iv n,.string ⟨#[]⟩,sZ],iv 0]) (by simp[results,Tryz.results105,go_sem,hlN,m0,m1,m2,m3]) rfl ⟨rfl,hbN⟩
theorem M5{B:Nat->Prop}{a b:V}{sa sb:Value}{w:World}(ha:IsW B w a sa)(hb:IsW B w b sb)(f0:(a.k != b.k)=false)(f1:(a.k != 1)=false)(f2:(a.k == 3)=false)(hbn:b.n=0):Calls Tryz.prog 105 #[iv 12,.agg #[iv a.k,iv a.n,bz a.t,sa],.agg #[iv b.k,iv b.n,bz b.t,sb]] w fun r w'=>Bg (numV ((0,51):Int × Int)) w r w':=by
 obtain⟨w0,w1,w2,hW0,hW1,hW2,hs0,hs1,hs2,hB,hx0,d0,d1,d2,d3,g0,g1,g2,g3⟩:=Cz w a sa b sb;have hC:=Aq (ha.below hB) (hb.below hB);generalize cmpV a b=c at *;have hmb:(b.n == 0)=true:=by simp[hbn]
 show Calls Tryz.prog 105 _ w fun r w'=>Bg (zV,51) w r w'
 clear ha hb hbn;go_enter Tryz.func105,Tryz.ntmps105;go_wp2_with fail;refine hC.mono ?_;rintro r w3 ⟨rfl,hb3⟩;clear hC;have hKp:=Cf hb3 hs2 d0 d1 d2 g1 g2;clear d0 d1 d2 g1 g2;obtain⟨k0,k1,k2,k3,d0,d1,d2,g1,g2⟩:=hKp;obtain⟨wN,hWN,⟨s0,s1,s2,s3,t0,t1,t2,t3⟩,hlw,⟨m0,m1,m2,m3⟩,hlN,hbN⟩:=B3 hx0 hB hb3 (iv 0) (iv 0) (.string ⟨#[]⟩) sZ;clear hx0;go_wp2_with fail;exact bodyPost_ret (v:=.tuple #[.agg #[iv 0,iv 0,.string ⟨#[]⟩,sZ],iv 51]) (by simp[results,Tryz.results105,go_sem,hlN,m0,m1,m2,m3]) rfl ⟨rfl,hbN⟩
theorem M6{B:Nat->Prop}{a b:V}{sa sb:Value}{w:World}(ha:IsW B w a sa)(hb:IsW B w b sb)(f0:(a.k != b.k)=false)(f1:(a.k != 1)=false)(f2:(a.k == 3)=false)(hbn:b.n=0):Calls Tryz.prog 105 #[iv 13,.agg #[iv a.k,iv a.n,bz a.t,sa],.agg #[iv b.k,iv b.n,bz b.t,sb]] w fun r w'=>Bg (numV ((0,51):Int × Int)) w r w':=by
 obtain⟨w0,w1,w2,hW0,hW1,hW2,hs0,hs1,hs2,hB,hx0,d0,d1,d2,d3,g0,g1,g2,g3⟩:=Cz w a sa b sb;have hC:=Aq (ha.below hB) (hb.below hB);generalize cmpV a b=c at *;have hmb:(b.n == 0)=true:=by simp[hbn]
 show Calls Tryz.prog 105 _ w fun r w'=>Bg (zV,51) w r w'
 clear ha hb hbn;go_enter Tryz.func105,Tryz.ntmps105;go_wp2_with fail;refine hC.mono ?_;rintro r w3 ⟨rfl,hb3⟩;clear hC;have hKp:=Cf hb3 hs2 d0 d1 d2 g1 g2;clear d0 d1 d2 g1 g2;obtain⟨k0,k1,k2,k3,d0,d1,d2,g1,g2⟩:=hKp;obtain⟨wN,hWN,⟨s0,s1,s2,s3,t0,t1,t2,t3⟩,hlw,⟨m0,m1,m2,m3⟩,hlN,hbN⟩:=B3 hx0 hB hb3 (iv 0) (iv 0) (.string ⟨#[]⟩) sZ;clear hx0;go_wp2_with fail;exact bodyPost_ret (v:=.tuple #[.agg #[iv 0,iv 0,.string ⟨#[]⟩,sZ],iv 51]) (by simp[results,Tryz.results105,go_sem,hlN,m0,m1,m2,m3]) rfl ⟨rfl,hbN⟩
theorem Rc{B:Nat->Prop}{a b:V}{sa sb:Value}{w:World}(ha:IsW B w a sa)(hb:IsW B w b sb)(f0:(a.k != b.k)=false)(f1:(a.k != 1)=false)(f2:(a.k == 3)=false)(hbn:b.n=-1):Calls Tryz.prog 105 #[iv 13,.agg #[iv a.k,iv a.n,bz a.t,sa],.agg #[iv b.k,iv b.n,bz b.t,sb]] w fun r w'=>Bg (numV ((0,0):Int × Int)) w r w':=by
 obtain⟨w0,w1,w2,hW0,hW1,hW2,hs0,hs1,hs2,hB,hx0,d0,d1,d2,d3,g0,g1,g2,g3⟩:=Cz w a sa b sb;have hC:=Aq (ha.below hB) (hb.below hB);generalize cmpV a b=c at *;have hmb:(b.n == 0)=false:=by simp[hbn]
 have hmc:(b.n != -1)=false:=by simp[hbn]
 show Calls Tryz.prog 105 _ w fun r w'=>Bg (nV 0,0) w r w'
 clear ha hb hbn;go_enter Tryz.func105,Tryz.ntmps105;go_wp2_with fail;refine hC.mono ?_;rintro r w3 ⟨rfl,hb3⟩;clear hC;have hKp:=Cf hb3 hs2 d0 d1 d2 g1 g2;clear d0 d1 d2 g1 g2;obtain⟨k0,k1,k2,k3,d0,d1,d2,g1,g2⟩:=hKp;go_wp2_with fail;refine (B7 0 w3).mono ?_;rintro r w5 ⟨rfl,hb5'⟩;have hb5:Below w2.heap.size w2 w5:=hb3.trans (hb5'.mono hb3.size);obtain⟨wN,hWN,⟨s0,s1,s2,s3,t0,t1,t2,t3⟩,hlw,⟨m0,m1,m2,m3⟩,hlN,hbN⟩:=B3 hx0 hB hb5 (iv 1) (iv 0) (.string ⟨#[]⟩) sZ;clear hx0 hb5';go_wp2_with fail;exact bodyPost_ret (v:=.tuple #[.agg #[iv 1,iv 0,.string ⟨#[]⟩,sZ],iv 0]) (by simp[results,Tryz.results105,go_sem,hlN,m0,m1,m2,m3]) rfl ⟨rfl,hbN⟩
theorem Rd{B:Nat->Prop}{a b:V}{sa sb:Value}{w:World}(ha:IsW B w a sa)(hb:IsW B w b sb)(f0:(a.k != b.k)=false)(f1:(a.k != 1)=false)(f2:(a.k == 3)=false)(hbn:b.n≠-1)(hbz:b.n≠0):Calls Tryz.prog 105 #[iv 13,.agg #[iv a.k,iv a.n,bz a.t,sa],.agg #[iv b.k,iv b.n,bz b.t,sb]] w fun r w'=>Bg (numV ((a.n.tmod b.n,0):Int × Int)) w r w':=by
 obtain⟨w0,w1,w2,hW0,hW1,hW2,hs0,hs1,hs2,hB,hx0,d0,d1,d2,d3,g0,g1,g2,g3⟩:=Cz w a sa b sb;have hC:=Aq (ha.below hB) (hb.below hB);generalize cmpV a b=c at *;have hmb:(b.n == 0)=false:=by simpa using hbz
 have hbz':¬b.n=0:=hbz;have hmc:(b.n != -1)=true:=by simpa using hbn
 have hq:InR (a.n.tmod b.n):=by
  have h7:(a.n.tmod b.n).natAbs<b.n.natAbs:=by rw[Int.natAbs_tmod];exact Nat.mod_lt _ (Int.natAbs_pos.2 hbz)
  have:=hb.nr;unfold InR at *;omega
 obtain⟨n,hn⟩:∃n,a.n.tmod b.n=n:=⟨_,rfl⟩;have hwq:IntKind.i64.wrap (a.n.tmod b.n)=n:=(As hq).trans hn;rw[hn];show Calls Tryz.prog 105 _ w fun r w'=>Bg (nV n,0) w r w'
 clear ha hb hbn hbz hq;go_enter Tryz.func105,Tryz.ntmps105;go_wp2_with fail;refine hC.mono ?_;rintro r w3 ⟨rfl,hb3⟩;clear hC;have hKp:=Cf hb3 hs2 d0 d1 d2 g1 g2;clear d0 d1 d2 g1 g2;obtain⟨k0,k1,k2,k3,d0,d1,d2,g1,g2⟩:=hKp;go_wp2_with fail;refine (B7 n w3).mono ?_;rintro r w5 ⟨rfl,hb5'⟩;have hb5:Below w2.heap.size w2 w5:=hb3.trans (hb5'.mono hb3.size);obtain⟨wN,hWN,⟨s0,s1,s2,s3,t0,t1,t2,t3⟩,hlw,⟨m0,m1,m2,m3⟩,hlN,hbN⟩:=B3 hx0 hB hb5 (iv 1) (iv n) (.string ⟨#[]⟩) sZ;clear hx0 hb5';go_wp2_with fail;exact bodyPost_ret (v:=.tuple #[.agg #[iv 1,iv n,.string ⟨#[]⟩,sZ],iv 0]) (by simp[results,Tryz.results105,go_sem,hlN,m0,m1,m2,m3]) rfl ⟨rfl,hbN⟩
theorem Re{B:Nat->Prop}{a b:V}{sa sb:Value}{w:World}(ha:IsW B w a sa)(hb:IsW B w b sb)(f0:(a.k != b.k)=false)(f1:(a.k != 1)=false)(f2:(a.k == 3)=false)(han:a.n=-9223372036854775808)(hbn:b.n=-1):Calls Tryz.prog 105 #[iv 12,.agg #[iv a.k,iv a.n,bz a.t,sa],.agg #[iv b.k,iv b.n,bz b.t,sb]] w fun r w'=>Bg (numV ((0,50):Int × Int)) w r w':=by
 obtain⟨w0,w1,w2,hW0,hW1,hW2,hs0,hs1,hs2,hB,hx0,d0,d1,d2,d3,g0,g1,g2,g3⟩:=Cz w a sa b sb;have hC:=Aq (ha.below hB) (hb.below hB);generalize cmpV a b=c at *;have hmb:(b.n == 0)=false:=by simp[hbn]
 have hmc:(b.n == -1)=true:=by simp[hbn]
 have hmd:(a.n == -9223372036854775808)=true:=by simp[han]
 show Calls Tryz.prog 105 _ w fun r w'=>Bg (zV,50) w r w'
 clear ha hb hbn han;go_enter Tryz.func105,Tryz.ntmps105;go_wp2_with fail;refine hC.mono ?_;rintro r w3 ⟨rfl,hb3⟩;clear hC;have hKp:=Cf hb3 hs2 d0 d1 d2 g1 g2;clear d0 d1 d2 g1 g2;obtain⟨k0,k1,k2,k3,d0,d1,d2,g1,g2⟩:=hKp;obtain⟨wN,hWN,⟨s0,s1,s2,s3,t0,t1,t2,t3⟩,hlw,⟨m0,m1,m2,m3⟩,hlN,hbN⟩:=B3 hx0 hB hb3 (iv 0) (iv 0) (.string ⟨#[]⟩) sZ;clear hx0;go_wp2_with fail;exact bodyPost_ret (v:=.tuple #[.agg #[iv 0,iv 0,.string ⟨#[]⟩,sZ],iv 50]) (by simp[results,Tryz.results105,go_sem,hlN,m0,m1,m2,m3]) rfl ⟨rfl,hbN⟩
theorem Ow{B:Nat->Prop}{a b:V}{sa sb:Value}{w:World}(ha:IsW B w a sa)(hb:IsW B w b sb)(f0:(a.k != b.k)=false)(f1:(a.k != 1)=false)(f2:(a.k == 3)=false)(han:a.n≠-9223372036854775808)(hbz:b.n≠0)(hq:InR (a.n.tdiv b.n)):Calls Tryz.prog 105 #[iv 12,.agg #[iv a.k,iv a.n,bz a.t,sa],.agg #[iv b.k,iv b.n,bz b.t,sb]] w fun r w'=>Bg (numV ((a.n.tdiv b.n,0):Int × Int)) w r w':=by
 obtain⟨w0,w1,w2,hW0,hW1,hW2,hs0,hs1,hs2,hB,hx0,d0,d1,d2,d3,g0,g1,g2,g3⟩:=Cz w a sa b sb;have hC:=Aq (ha.below hB) (hb.below hB);generalize cmpV a b=c at *;have hmb:(b.n == 0)=false:=by simpa using hbz
 have hbz':¬b.n=0:=hbz;have hmd:(a.n == -9223372036854775808)=false:=by simpa using han
 obtain⟨n,hn⟩:∃n,a.n.tdiv b.n=n:=⟨_,rfl⟩;have hwq:IntKind.i64.wrap (a.n.tdiv b.n)=n:=(As hq).trans hn;rw[hn];show Calls Tryz.prog 105 _ w fun r w'=>Bg (nV n,0) w r w'
 clear ha hb han hbz hq hn;go_enter Tryz.func105,Tryz.ntmps105;go_wp2_with fail;refine hC.mono ?_;rintro r w3 ⟨rfl,hb3⟩;clear hC;have hKp:=Cf hb3 hs2 d0 d1 d2 g1 g2;clear d0 d1 d2 g1 g2;obtain⟨k0,k1,k2,k3,d0,d1,d2,g1,g2⟩:=hKp;go_wp2_with fail;refine (B7 n w3).mono ?_;rintro r w5 ⟨rfl,hb5'⟩;have hb5:Below w2.heap.size w2 w5:=hb3.trans (hb5'.mono hb3.size);obtain⟨wN,hWN,⟨s0,s1,s2,s3,t0,t1,t2,t3⟩,hlw,⟨m0,m1,m2,m3⟩,hlN,hbN⟩:=B3 hx0 hB hb5 (iv 1) (iv n) (.string ⟨#[]⟩) sZ;clear hx0 hb5';go_wp2_with fail;exact bodyPost_ret (v:=.tuple #[.agg #[iv 1,iv n,.string ⟨#[]⟩,sZ],iv 0]) (by simp[results,Tryz.results105,go_sem,hlN,m0,m1,m2,m3]) rfl ⟨rfl,hbN⟩
theorem Ox{B:Nat->Prop}{a b:V}{sa sb:Value}{w:World}(ha:IsW B w a sa)(hb:IsW B w b sb)(f0:(a.k != b.k)=false)(f1:(a.k != 1)=false)(f2:(a.k == 3)=false)(han:a.n=-9223372036854775808)(hbn:b.n≠-1)(hbz:b.n≠0)(hq:InR (a.n.tdiv b.n)):Calls Tryz.prog 105 #[iv 12,.agg #[iv a.k,iv a.n,bz a.t,sa],.agg #[iv b.k,iv b.n,bz b.t,sb]] w fun r w'=>Bg (numV ((a.n.tdiv b.n,0):Int × Int)) w r w':=by
 obtain⟨w0,w1,w2,hW0,hW1,hW2,hs0,hs1,hs2,hB,hx0,d0,d1,d2,d3,g0,g1,g2,g3⟩:=Cz w a sa b sb;have hC:=Aq (ha.below hB) (hb.below hB);generalize cmpV a b=c at *;have hmb:(b.n == 0)=false:=by simpa using hbz
 have hbz':¬b.n=0:=hbz;have hmd:(a.n == -9223372036854775808)=true:=by simp[han]
 have hmc:(b.n == -1)=false:=by simpa using hbn
 obtain⟨n,hn⟩:∃n,a.n.tdiv b.n=n:=⟨_,rfl⟩;have hwq:IntKind.i64.wrap (a.n.tdiv b.n)=n:=(As hq).trans hn;rw[hn];show Calls Tryz.prog 105 _ w fun r w'=>Bg (nV n,0) w r w'
 clear ha hb han hbz hq hn hbn;go_enter Tryz.func105,Tryz.ntmps105;go_wp2_with fail;refine hC.mono ?_;rintro r w3 ⟨rfl,hb3⟩;clear hC;have hKp:=Cf hb3 hs2 d0 d1 d2 g1 g2;clear d0 d1 d2 g1 g2;obtain⟨k0,k1,k2,k3,d0,d1,d2,g1,g2⟩:=hKp;go_wp2_with fail;refine (B7 n w3).mono ?_;rintro r w5 ⟨rfl,hb5'⟩;have hb5:Below w2.heap.size w2 w5:=hb3.trans (hb5'.mono hb3.size);obtain⟨wN,hWN,⟨s0,s1,s2,s3,t0,t1,t2,t3⟩,hlw,⟨m0,m1,m2,m3⟩,hlN,hbN⟩:=B3 hx0 hB hb5 (iv 1) (iv n) (.string ⟨#[]⟩) sZ;clear hx0 hb5';go_wp2_with fail;exact bodyPost_ret (v:=.tuple #[.agg #[iv 1,iv n,.string ⟨#[]⟩,sZ],iv 0]) (by simp[results,Tryz.results105,go_sem,hlN,m0,m1,m2,m3]) rfl ⟨rfl,hbN⟩
end
section
open Go.RowKit
theorem Pt{a b:Int}(ha:InR a)(hb:InR b)(h0:b≠0)(h1:¬(a=-9223372036854775808∧b=-1)):InR (a.tdiv b):=by
 have h5:(a.tdiv b).natAbs<=a.natAbs:=Int.natAbs_tdiv_le_natAbs _ _;by_cases hz9:a=-9223372036854775808
 ·by_cases hq9:a.tdiv b=9223372036854775808
  ·exfalso;have h6:=Int.mul_tdiv_add_tmod a b;rw[hq9] at h6;have h7:(a.tmod b).natAbs<b.natAbs:=by rw[Int.natAbs_tmod];exact Nat.mod_lt _ (Int.natAbs_pos.2 h0)
   generalize a.tmod b=r at *;omega
  ·unfold InR;omega
 ·unfold InR at *;omega
theorem Us{B:Nat->Prop}{op:Int}{a b:V}{sa sb:Value}{w:World}(ha:IsW B w a sa)(hb:IsW B w b sb)(f0:(a.k != b.k)=false)(f1:(a.k != 1)=false)(f2:(a.k == 3)=false)(h9:9<=op∧op<=13):Calls Tryz.prog 105 #[iv op,.agg #[iv a.k,iv a.n,bz a.t,sa],.agg #[iv b.k,iv b.n,bz b.t,sb]] w fun r w'=>Bg (numV (arZ op a.n b.n)) w r w':=by
 have hc:op=9∨op=10∨op=11∨op=12∨op=13:=by omega
 rcases hc with rfl | rfl | rfl | rfl | rfl
 ·rw[show arZ 9 a.n b.n=exR (a.n+b.n) from rfl];exact Uo ha hb f0 f1 f2
 ·rw[show arZ 10 a.n b.n=exR (a.n - b.n) from rfl];by_cases hm:b.n=-9223372036854775808
  ·by_cases hp:0<=a.n
   ·exact Ra ha hb f0 f1 f2 hm hp
   ·exact Rb ha hb f0 f1 f2 hm hp
  ·exact Ur ha hb f0 f1 f2 hm
 ·rw[show arZ 11 a.n b.n=exR (a.n*b.n) from rfl];exact Uq ha hb f0 f1 f2
 ·rw[show arZ 12 a.n b.n=if b.n=0 then (0,51) else exR (a.n.tdiv b.n) from rfl];by_cases hz:b.n=0
  ·rw[if_pos hz];exact M5 ha hb f0 f1 f2 hz
  rw[if_neg hz];by_cases hm:a.n=-9223372036854775808
  ·by_cases h1:b.n=-1
   ·rw[B8 (by rw[hm,h1];unfold InR;decide)];exact Re ha hb f0 f1 f2 hm h1
   ·have hq:=Pt ha.nr hb.nr hz fun h=>h1 h.2
    rw[B6 hq];exact Ox ha hb f0 f1 f2 hm h1 hz hq
  ·have hq:=Pt ha.nr hb.nr hz fun h=>hm h.1
   rw[B6 hq];exact Ow ha hb f0 f1 f2 hm hz hq
 ·rw[show arZ 13 a.n b.n=if b.n=0 then (0,51) else (a.n.tmod b.n,0) from rfl];by_cases hz:b.n=0
  ·rw[if_pos hz];exact M6 ha hb f0 f1 f2 hz
  rw[if_neg hz];by_cases h1:b.n=-1
  ·rw[show a.n.tmod b.n=0 by rw[h1,Int.tmod_neg,Int.tmod_one]];exact Rc ha hb f0 f1 f2 h1
  ·exact Rd ha hb f0 f1 f2 h1 hz
theorem M7{B:Nat->Prop}{a b:V}{sa sb:Value}{w:World}(op:Int)(ha:IsW B w a sa)(hb:IsW B w b sb)(hta:a.t.length<=281474976710656)(htb:b.t.length<=281474976710656):Calls Tryz.prog 105 #[iv op,.agg #[iv a.k,iv a.n,bz a.t,sa],.agg #[iv b.k,iv b.n,bz b.t,sb]] w fun r w'=>Bg (binV op a b) w r w':=by
 unfold binV;by_cases c3:op=3
 ·rw[if_pos c3];subst c3;exact Wu ha hb
 rw[if_neg c3];by_cases c4:op=4
 ·rw[if_pos c4];subst c4;exact Wv ha hb
 rw[if_neg c4];have q3:(op == 3)=false:=by simpa using c3
 have q4:(op == 4)=false:=by simpa using c4
 by_cases hk:a.k≠b.k∨(a.k≠1∧a.k≠3)
 ·rw[if_pos hk];refine rbin_bad q3 q4 ?_;by_cases h0:a.k=b.k
  ·rcases hk with h | ⟨h1,h3⟩
   ·exact absurd h0 h
   ·exact Or.inr (Or.inl ⟨by simp[h0],by simpa using h1,by simpa using h3⟩)
  ·exact Or.inl (by simpa using h0)
 rw[if_neg hk];have h0:a.k=b.k:=Classical.byContradiction fun h=>hk (Or.inl h)
 have f0:(a.k != b.k)=false:=by simp[h0]
 have hk1:(a.k != 1)=false∨((a.k != 1)=true∧(a.k != 3)=false):=by
  by_cases h1:a.k=1
  ·exact Or.inl (by simp[h1])
  ·exact Or.inr ⟨by simpa using h1,by simp;exact Classical.byContradiction fun h=>hk (Or.inr ⟨h1,h⟩)⟩
 by_cases ho:5<=op∧op<=8
 ·rw[if_pos ho];have hc:op=5∨op=6∨op=7∨op=8:=by omega
  rcases hc with rfl | rfl | rfl | rfl
  ·exact Q6 ha hb f0 hk1
  ·exact Q7 ha hb f0 hk1
  ·exact Q8 ha hb f0 hk1
  ·exact Q9 ha hb f0 hk1
 rw[if_neg ho];have hbad:¬(9<=op∧op<=13)->Calls Tryz.prog 105 #[iv op,.agg #[iv a.k,iv a.n,bz a.t,sa],.agg #[iv b.k,iv b.n,bz b.t,sb]] w fun r w'=>Bg (zV,40) w r w':=by
  intro h9;refine rbin_bad q3 q4 ?_;by_cases hl:op<3
  ·have o1:decide (op<3)=true:=by simpa using hl
   rcases hk1 with f1 | ⟨f1,f3⟩
   ·exact Or.inr (Or.inr (Or.inl ⟨f0,f1,o1⟩))
   ·exact Or.inr (Or.inr (Or.inr (Or.inl ⟨f0,f1,f3,o1⟩)))
  ·have o1:decide (op<3)=false:=by simpa using hl
   have o2:decide (13<op)=true:=by simp;omega
   rcases hk1 with f1 | ⟨f1,f3⟩
   ·exact Or.inr (Or.inr (Or.inr (Or.inr (Or.inl ⟨f0,f1,o1,o2⟩))))
   ·exact Or.inr (Or.inr (Or.inr (Or.inr (Or.inr ⟨f0,f1,f3,o1,o2⟩))))
 by_cases h1:a.k=1
 ·rw[if_pos h1];by_cases h9:9<=op∧op<=13
  ·exact Us ha hb f0 (by simp[h1]) (by simp[h1]) h9
  ·have hz:arZ op a.n b.n=(0,40):=by
    unfold arZ;rw[if_neg (by omega),if_neg (by omega),if_neg (by omega),if_neg (by omega),if_neg (by omega)]
   rw[hz];exact hbad h9
 rw[if_neg h1];have f1:(a.k != 1)=true:=by simpa using h1
 have h3:a.k=3:=Classical.byContradiction fun h=>hk (Or.inr ⟨h1,h⟩)
 have f3:(a.k != 3)=false:=by simp[h3]
 have f2:(a.k == 3)=true:=by simp[h3]
 by_cases h9:op=9
 ·rw[if_pos h9];subst h9;exact Un ha hb hta htb f0 f1 f3 f2
 rw[if_neg h9];by_cases h10:9<=op∧op<=13
 ·exact Um ha hb f0 f1 f3 f2 (by omega)
 ·exact hbad h10
end
end Go.Proofs.YtnijcolomoobnaaGreatDoor
