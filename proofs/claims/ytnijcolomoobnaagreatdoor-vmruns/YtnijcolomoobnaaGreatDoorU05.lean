/- Texts of ours, joined. -/
import Derived.Test.YtnijcolomoobnaaGreatDoorU01
import Derived.Test.YtnijcolomoobnaaGreatDoorU03
set_option linter.unusedVariables false
set_option linter.unusedSimpArgs false
set_option maxRecDepth 100000
set_option maxHeartbeats 16000000
namespace Go.Proofs.YtnijcolomoobnaaGreatDoor
section
open Go.RowKit
theorem J1(l:List UInt8)(hl:l.length<=9223372036854775807)(w:World):Calls Tryz.prog 156 #[.string ⟨l.toArray⟩] w fun e w'=>e=.returned (.string ⟨(elT l).1.toArray⟩)∧w'=w:=by
 have hK:=Hr l hl w;unfold Es at hK;rcases h:tyOf l with _ | T
 ·have he:elT l=([],false):=by unfold elT;rw[h]
  rw[h] at hK;rw[he];clear h he;go_enter Tryz.func156,Tryz.ntmps156;go_wp2_with (go_at_call 135;refine hK.mono ?_;rintro e w' ⟨rfl,rfl⟩);go_ret;exact⟨rfl,rfl⟩
 ·obtain⟨h1,h2⟩:=(B4 _ _).1 h;rw[h] at hK;have hlen:=Bh T;rcases T with _ | _ | _ | t | ⟨k,t⟩
  ·have he:elT l=([],false):=by unfold elT;rw[h]
   rw[he];clear h he;subst h1;go_enter Tryz.func156,Tryz.ntmps156;go_wp2_with (go_at_call 135;refine hK.mono ?_;rintro e w' ⟨rfl,rfl⟩);go_ret;exact⟨rfl,rfl⟩
  ·have he:elT l=([],false):=by unfold elT;rw[h]
   rw[he];clear h he;subst h1;go_enter Tryz.func156,Tryz.ntmps156;go_wp2_with (go_at_call 135;refine hK.mono ?_;rintro e w' ⟨rfl,rfl⟩);go_ret;exact⟨rfl,rfl⟩
  ·have he:elT l=([],false):=by unfold elT;rw[h]
   rw[he];clear h he;subst h1;go_enter Tryz.func156,Tryz.ntmps156;go_wp2_with (go_at_call 135;refine hK.mono ?_;rintro e w' ⟨rfl,rfl⟩);go_ret;exact⟨rfl,rfl⟩
  ·have he:elT l=(tyT t,true):=by unfold elT;rw[h]
   rw[he];clear h he;subst h1;have hlt:=Bh t;have e:tyT (.list t)=91 :: (tyT t ++ [93]):=rfl;have hz:(⟨(tyT (.list t)).toArray⟩:ByteArray).size=(tyT t).length+2:=by rw[e];show (91 :: (tyT t ++ [93])).toArray.size=_;simp
   have hx:(⟨(tyT (.list t)).toArray⟩:ByteArray).extract 1 ((tyT t).length+2 - 1)=⟨(tyT t).toArray⟩:=Gx (by rw[B0,e];simp);rw[e] at hK hz hx ⊢;generalize tyT t=y at *;simp only[Ty.dp] at h2;clear hlen e;go_enter Tryz.func156,Tryz.ntmps156;go_wp2_with (go_at_call 135;refine hK.mono ?_;rintro e w' ⟨rfl,rfl⟩);go_ret;exact⟨by first | rfl | exact congrArg (fun x=>Ending.returned (.string x)) hx,rfl⟩
  ·have he:elT l=([],false):=by unfold elT;rw[h]
   rw[he];clear h he;subst h1;have e:tyT (.map k t)=123 :: (keyT k ++ 58 :: (tyT t ++ [125])):=by simp[tyT]
   rw[e] at hK hlen ⊢;generalize keyT k ++ 58 :: (tyT t ++ [125])=r at *;simp only[List.length_cons] at hlen;clear e h2;go_enter Tryz.func156,Tryz.ntmps156;go_wp2_with (go_at_call 135;refine hK.mono ?_;rintro e w' ⟨rfl,rfl⟩);go_ret;exact⟨rfl,rfl⟩
theorem Sm(l:List UInt8)(hl:l.length<=9223372036854775807)(w:World):Calls Tryz.prog 157 #[.string ⟨l.toArray⟩] w fun e w'=>e=.returned (.tuple #[.string ⟨(mpT l).1.toArray⟩,.string ⟨(mpT l).2.1.toArray⟩])∧Below w.heap.size w w':=by
 have hK:=Hr l hl w;unfold Es at hK;rcases h:tyOf l with _ | T
 ·have he:mpT l=([],[],false):=by unfold mpT;rw[h]
  rw[h] at hK;rw[he];clear h he;go_enter Tryz.func157,Tryz.ntmps157;go_wp2_with (go_at_call 135;refine hK.mono ?_;rintro e w' ⟨rfl,rfl⟩)
  go_ret2
  exact⟨rfl,Below.refl _ _⟩
 ·obtain⟨h1,h2⟩:=(B4 _ _).1 h;rw[h] at hK;have hlen:=Bh T;rcases T with _ | _ | _ | t | ⟨k,t⟩
  ·have he:mpT l=([],[],false):=by unfold mpT;rw[h]
   rw[he];clear h he;subst h1;go_enter Tryz.func157,Tryz.ntmps157;go_wp2_with (go_at_call 135;refine hK.mono ?_;rintro e w' ⟨rfl,rfl⟩)
   go_ret2
   exact⟨rfl,Below.refl _ _⟩
  ·have he:mpT l=([],[],false):=by unfold mpT;rw[h]
   rw[he];clear h he;subst h1;go_enter Tryz.func157,Tryz.ntmps157;go_wp2_with (go_at_call 135;refine hK.mono ?_;rintro e w' ⟨rfl,rfl⟩)
   go_ret2
   exact⟨rfl,Below.refl _ _⟩
  ·have he:mpT l=([],[],false):=by unfold mpT;rw[h]
   rw[he];clear h he;subst h1;go_enter Tryz.func157,Tryz.ntmps157;go_wp2_with (go_at_call 135;refine hK.mono ?_;rintro e w' ⟨rfl,rfl⟩)
   go_ret2
   exact⟨rfl,Below.refl _ _⟩
  ·have he:mpT l=([],[],false):=by unfold mpT;rw[h]
   rw[he];clear h he;subst h1;have e:tyT (.list t)=91 :: (tyT t ++ [93]):=rfl;rw[e] at hK hlen ⊢;generalize tyT t ++ [93]=r at *;simp only[List.length_cons] at hlen;clear e h2;go_enter Tryz.func157,Tryz.ntmps157;go_wp2_with (go_at_call 135;refine hK.mono ?_;rintro e w' ⟨rfl,rfl⟩)
   go_ret2
   exact⟨rfl,Below.refl _ _⟩
  ·have he:mpT l=(keyT k,tyT t,true):=by unfold mpT;rw[h]
   rw[he];clear h he;subst h1;have hlt:=Bh t;simp only[Ty.dp] at h2;cases k
   ·have e:tyT (.map false t)=123 :: 116 :: 101 :: 120 :: 116 :: 58 :: (tyT t ++ [125]):=by simp[tyT,keyT]
    have hz:(⟨(tyT (.map false t)).toArray⟩:ByteArray).size=(tyT t).length+7:=by rw[e];show (123 :: 116 :: 101 :: 120 :: 116 :: 58 :: (tyT t ++ [125])).toArray.size=_;simp
    have hx:(⟨(tyT (.map false t)).toArray⟩:ByteArray).extract 6 ((tyT t).length+7 - 1)=⟨(tyT t).toArray⟩:=Gx (by rw[B0,e];simp);have hx2:(⟨(tyT (.map false t)).toArray⟩:ByteArray).extract 6 ((tyT t).length+6)=⟨(tyT t).toArray⟩:=Gx (by rw[B0,e];simp);have hkt:keyT false=[116,101,120,116]:=rfl;rw[hkt];rw[e] at hK hz hx hx2 ⊢;generalize tyT t=y at *;clear hlen e hkt;go_enter Tryz.func157,Tryz.ntmps157;go_wp2_with (go_at_call 135;refine hK.mono ?_;rintro e w' ⟨rfl,rfl⟩)
    go_quiet (fail)
    go_wp2
    go_ret2
    exact⟨by first | rfl | (simp[hx,hx2]),Af _ _⟩
   ·have e:tyT (.map true t)=123 :: 105 :: 110 :: 116 :: 58 :: (tyT t ++ [125]):=by simp[tyT,keyT]
    have hz:(⟨(tyT (.map true t)).toArray⟩:ByteArray).size=(tyT t).length+6:=by rw[e];show (123 :: 105 :: 110 :: 116 :: 58 :: (tyT t ++ [125])).toArray.size=_;simp
    have hx:(⟨(tyT (.map true t)).toArray⟩:ByteArray).extract 5 ((tyT t).length+6 - 1)=⟨(tyT t).toArray⟩:=Gx (by rw[B0,e];simp);have hx2:(⟨(tyT (.map true t)).toArray⟩:ByteArray).extract 5 ((tyT t).length+5)=⟨(tyT t).toArray⟩:=Gx (by rw[B0,e];simp);have hkt:keyT true=[105,110,116]:=rfl;rw[hkt];rw[e] at hK hz hx hx2 ⊢;generalize tyT t=y at *;clear hlen e hkt;go_enter Tryz.func157,Tryz.ntmps157;go_wp2_with (go_at_call 135;refine hK.mono ?_;rintro e w' ⟨rfl,rfl⟩)
    go_quiet (fail)
    go_wp2
    go_ret2
    exact⟨by first | rfl | (simp[hx,hx2]),Af _ _⟩
theorem Gm(l:List UInt8)(hl:l.length<=9223372036854775807)(w:World):Calls Tryz.prog 155 #[.string ⟨l.toArray⟩] w fun e w'=>e=.returned (.agg #[iv (kdOf l),iv 0,.string ⟨#[]⟩,sZ])∧Below w.heap.size w w':=by
 have hK:=fun w=>Hr l hl w
 have hL:=fun w=>J1 l hl w
 unfold Es at hK;rcases h:tyOf l with _ | T
 ·have hk:Hid (kdOf l=0):=by show _=_;unfold kdOf;rw[h]
  have he:elT l=([],false):=by unfold elT;rw[h]
  rw[he] at hL;have n1:(l == [105,110,116])=false:=by rw[beq_eq_false_iff_ne];intro h1;rw[h1] at h;exact absurd h (by decide)
  have n2:(l == [98,111,111,108])=false:=by rw[beq_eq_false_iff_ne];intro h1;rw[h1] at h;exact absurd h (by decide)
  have n3:(l == [116,101,120,116])=false:=by rw[beq_eq_false_iff_ne];intro h1;rw[h1] at h;exact absurd h (by decide)
  rw[h] at hK;rw[hk.out];clear h he hk;go_enter Tryz.func155,Tryz.ntmps155;go_wp2_with (first | (go_at_call 135;refine (hK _).mono ?_;rintro e w' ⟨rfl,rfl⟩) | (go_at_call 156;refine (hL _).mono ?_;rintro e w' ⟨rfl,rfl⟩));exact bodyPost_ret (v:=.agg #[iv 0,iv 0,.string ⟨#[]⟩,sZ]) (by simp[results,Tryz.results155,go_sem]) rfl ⟨rfl,(Below.refl _ _).alloc (Nat.le_refl _) _⟩
 ·have hk:Hid (kdOf l=kd T):=by show _=_;unfold kdOf;rw[h]
  obtain⟨h1,h2⟩:=(B4 _ _).1 h;have hlen:=Bh T;rw[h] at hK;rw[hk.out];rcases T with _ | _ | _ | t | ⟨k,t⟩
  ·show Calls _ _ _ _ fun e w'=>e=.returned (.agg #[iv 1,iv 0,.string ⟨#[]⟩,sZ])∧_
   clear hk h hL;subst h1;go_enter Tryz.func155,Tryz.ntmps155;go_wp2_with (first | (go_at_call 135;refine (hK _).mono ?_;rintro e w' ⟨rfl,rfl⟩) | (go_at_call 156;refine (hL _).mono ?_;rintro e w' ⟨rfl,rfl⟩));exact bodyPost_ret (v:=.agg #[iv 1,iv 0,.string ⟨#[]⟩,sZ]) (by simp[results,Tryz.results155,go_sem]) rfl ⟨rfl,(Below.refl _ _).alloc (Nat.le_refl _) _⟩
  ·show Calls _ _ _ _ fun e w'=>e=.returned (.agg #[iv 2,iv 0,.string ⟨#[]⟩,sZ])∧_
   clear hk h hL;subst h1;go_enter Tryz.func155,Tryz.ntmps155;go_wp2_with (first | (go_at_call 135;refine (hK _).mono ?_;rintro e w' ⟨rfl,rfl⟩) | (go_at_call 156;refine (hL _).mono ?_;rintro e w' ⟨rfl,rfl⟩));exact bodyPost_ret (v:=.agg #[iv 2,iv 0,.string ⟨#[]⟩,sZ]) (by simp[results,Tryz.results155,go_sem]) rfl ⟨rfl,(Below.refl _ _).alloc (Nat.le_refl _) _⟩
  ·show Calls _ _ _ _ fun e w'=>e=.returned (.agg #[iv 3,iv 0,.string ⟨#[]⟩,sZ])∧_
   clear hk h hL;subst h1;go_enter Tryz.func155,Tryz.ntmps155;go_wp2_with (first | (go_at_call 135;refine (hK _).mono ?_;rintro e w' ⟨rfl,rfl⟩) | (go_at_call 156;refine (hL _).mono ?_;rintro e w' ⟨rfl,rfl⟩));exact bodyPost_ret (v:=.agg #[iv 3,iv 0,.string ⟨#[]⟩,sZ]) (by simp[results,Tryz.results155,go_sem]) rfl ⟨rfl,(Below.refl _ _).alloc (Nat.le_refl _) _⟩
  ·show Calls _ _ _ _ fun e w'=>e=.returned (.agg #[iv 4,iv 0,.string ⟨#[]⟩,sZ])∧_
   have he:elT l=(tyT t,true):=by unfold elT;rw[h]
   rw[he] at hL;clear hk h he;subst h1;obtain⟨c,r,hc,-,-⟩:=P7 t;have e:tyT (.list t)=91 :: (tyT t ++ [93]):=rfl;rw[e] at hL ⊢;rw[hc] at hL ⊢;clear e hlen h2 hK;go_enter Tryz.func155,Tryz.ntmps155;go_wp2_with (first | (go_at_call 135;refine (hK _).mono ?_;rintro e w' ⟨rfl,rfl⟩) | (go_at_call 156;refine (hL _).mono ?_;rintro e w' ⟨rfl,rfl⟩));exact bodyPost_ret (v:=.agg #[iv 4,iv 0,.string ⟨#[]⟩,sZ]) (by simp[results,Tryz.results155,go_sem]) rfl ⟨rfl,(Below.refl _ _).alloc (Nat.le_refl _) _⟩
  ·show Calls _ _ _ _ fun e w'=>e=.returned (.agg #[iv 5,iv 0,.string ⟨#[]⟩,sZ])∧_
   have he:elT l=([],false):=by unfold elT;rw[h]
   rw[he] at hL;clear hk h he;subst h1;have e:tyT (.map k t)=123 :: (keyT k ++ 58 :: (tyT t ++ [125])):=by simp[tyT]
   rw[e] at hL hK ⊢;generalize keyT k ++ 58 :: (tyT t ++ [125])=r at *;clear e hlen h2;go_enter Tryz.func155,Tryz.ntmps155;go_wp2_with (first | (go_at_call 135;refine (hK _).mono ?_;rintro e w' ⟨rfl,rfl⟩) | (go_at_call 156;refine (hL _).mono ?_;rintro e w' ⟨rfl,rfl⟩));exact bodyPost_ret (v:=.agg #[iv 5,iv 0,.string ⟨#[]⟩,sZ]) (by simp[results,Tryz.results155,go_sem]) rfl ⟨rfl,(Below.refl _ _).alloc (Nat.le_refl _) _⟩
end
section
def exR(x:Int):Int × Int:=if -9223372036854775808<=x∧x<=9223372036854775807 then (x,0) else (0,50)
theorem B6{x:Int}(h:InR x):exR x=(x,0):=by unfold exR InR at *;rw[if_pos h]
theorem B8{x:Int}(h:¬InR x):exR x=(0,50):=by unfold exR InR at *;rw[if_neg h]
theorem Ly(x:Int):InR (exR x).1:=by
 unfold exR;split
 ·assumption
 ·unfold InR;simp
def arZ(op a b:Int):Int × Int:=
 if op=9 then exR (a+b) else if op=10 then exR (a - b) else if op=11 then exR (a*b)
 else if op=12 then (if b=0 then (0,51) else exR (a.tdiv b)) else if op=13 then (if b=0 then (0,51) else (a.tmod b,0)) else (0,40)
def ordB(op c:Int):Bool:=if op=5 then decide (c<0) else if op=6 then decide (c<=0) else if op=7 then decide (c > 0) else decide (c ≥ 0)
abbrev bV'(b:Bool):V:=.mk 2 (if b then 1 else 0) [] []
abbrev nV(n:Int):V:=.mk 1 n [] []
abbrev tV(t:List UInt8):V:=.mk 3 0 t []
abbrev zV:V:=.mk 0 0 [] []
def binV(op:Int)(a b:V):V × Int:=
 if op=3 then (bV' (decide (cmpV a b=0)),0) else if op=4 then (bV' (decide (cmpV a b≠0)),0)
 else if a.k≠b.k∨(a.k≠1∧a.k≠3) then (zV,40)
 else if 5<=op∧op<=8 then (bV' (ordB op (cmpV a b)),0)
 else if a.k=1 then (if (arZ op a.n b.n).2=0 then (nV (arZ op a.n b.n).1,0) else (zV,(arZ op a.n b.n).2))
 else if op=9 then (if a.t.length+b.t.length<=256 then (tV (a.t ++ b.t),0) else (zV,53)) else (zV,40)
def negV(a:V):V × Int:=if a.k=1 then (if (exR (-a.n)).2=0 then (nV (exR (-a.n)).1,0) else (zV,(exR (-a.n)).2)) else (zV,40)
/-! What machine arithmetic tells of it. -/
def wr64(x:Int):Int:=(x+9223372036854775808) % 18446744073709551616 - 9223372036854775808
theorem wr64_in{x:Int}(h:InR x):wr64 x=x:=by unfold wr64 InR at *;omega
theorem Sw(x:Int):InR (wr64 x):=by unfold wr64 InR;omega
theorem Sx{a b:Int}(ha:InR a)(hb:InR b):((decide (wr64 (a+b)<a) == decide (b<0))=true)↔InR (a+b):=by
 rw[beq_iff_eq,decide_eq_decide];unfold InR wr64 at *;omega
theorem Sy{a b:Int}(ha:InR a)(hb:InR b):((decide (wr64 (a - b) > a) == decide (b<0))=true)↔InR (a - b):=by
 rw[beq_iff_eq,decide_eq_decide];unfold InR wr64 at *;omega
theorem Sz{a b:Int}(ha:InR a)(hb:InR b)(h0:a≠0)(h1:a≠-1):((wr64 (a*b)).tdiv a=b)↔InR (a*b):=by
 constructor
 ·intro h;have hr:=Int.mul_tdiv_add_tmod (wr64 (a*b)) a;rw[h] at hr;have hm:∃k:Int,wr64 (a*b)=a*b - 18446744073709551616*k:=by
   refine⟨(a*b+9223372036854775808) / 18446744073709551616,?_⟩;unfold wr64;generalize a*b=x;omega
  obtain⟨k,hk⟩:=hm;have h3:(wr64 (a*b)).tmod a=-18446744073709551616*k:=by
   have:a*b+(wr64 (a*b)).tmod a=wr64 (a*b):=hr;rw[hk] at this;have h4:(a*b - 18446744073709551616*k).tmod a=-(18446744073709551616*k):=by
    generalize (a*b - 18446744073709551616*k).tmod a=y at this;generalize a*b=x at this;omega
   rw[hk,h4,Int.neg_mul]
  have h5:((wr64 (a*b)).tmod a).natAbs<a.natAbs:=by rw[Int.natAbs_tmod];exact Nat.mod_lt _ (Int.natAbs_pos.2 h0)
  rw[h3] at h5;have h6:k=0:=by
   unfold InR at ha;have:(-18446744073709551616*k).natAbs=18446744073709551616*k.natAbs:=by
    rw[Int.natAbs_mul];rfl
   rw[this] at h5;omega
  rw[h6] at hk;have hw:=Sw (a*b);rw[hk] at hw;simpa using hw
 ·intro h;rw[wr64_in h];exact Int.mul_tdiv_cancel_left b h0
def num(n:Nat):List UInt8:=if h:n<128 then [UInt8.ofNat n] else UInt8.ofNat (n % 128+128) :: num (n / 128)
termination_by n
decreasing_by omega
theorem Ku(l:List V)(f t:Nat)(xs:List V)(hf:f<=l.length)(j:Nat):(spl l f t xs)[j]?=if j<f then l[j]? else if j<f+xs.length then xs[j - f]? else l[j - (f+xs.length)+t]?:=by
 unfold spl;have e1:(l.take f).length=f:=by simp;omega
 by_cases h1:j<f
 ·rw[if_pos h1,List.append_assoc,List.getElem?_append_left (by omega),List.getElem?_take,if_pos h1]
 ·rw[if_neg h1];by_cases h2:j<f+xs.length
  ·rw[if_pos h2,List.getElem?_append_left (by simp;omega),List.getElem?_append_right (by omega),e1]
  ·rw[if_neg h2,List.getElem?_append_right (by simp;omega),List.getElem?_drop];congr 1;simp;omega
theorem Ns{k:V}{l:List V}{i:Nat}{a:V}(h:l[2*i]?=some a)(hi:i<kat k l):cmpV a k<0:=Kr k l i a hi h
theorem Nt{k:V}{l:List V}(he:l.length % 2=0)(hr:Cy l){i:Nat}{a:V}(h:l[2*i]?=some a)(hi:kat k l<=i):¬cmpV a k<0:=by
 have hlt:=(List.getElem?_eq_some_iff.1 h).1;have hq:l[2*kat k l]?=some l[2*kat k l]:=List.getElem?_eq_getElem (by omega);have h1:=Ks k l _ (by omega) hq;by_cases e:kat k l=i
 ·subst e;rw[h] at hq;rw[Option.some.inj hq];exact h1
 ·intro h2;exact h1 (cmpV_lt_trans (hr.lt (i:=kat k l) (j:=i) (by omega) hq h) h2)
end
end Go.Proofs.YtnijcolomoobnaaGreatDoor
