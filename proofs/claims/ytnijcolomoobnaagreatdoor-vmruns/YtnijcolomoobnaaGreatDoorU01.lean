/- Texts of ours, joined. -/
import Derived.Test.YtnijcolomoobnaaGreatDoorU00
import Derived.Test.YtnijcolomoobnaaGreatDoorShelf
import Derived.BigQuiet
set_option linter.unusedVariables false
set_option linter.unusedSimpArgs false
set_option maxRecDepth 100000
set_option maxHeartbeats 16000000
namespace Go.Proofs.YtnijcolomoobnaaGreatDoor
section
open Go.RowKit
theorem B0(s:ByteArray)(i j:Nat):(s.extract i j).data.toList=(s.data.toList.take j).drop i:=by
 rw[ByteArray.data_extract];simp[Array.toList_extract,List.extract_eq_take_drop];rw[List.take_drop];by_cases h:i<=j
 ·rw[Nat.add_sub_of_le h]
 ·rw[List.drop_eq_nil_of_le (by simp;omega),List.drop_eq_nil_of_le (by simp;omega)]
theorem Ii(t:ByteArray)(i:Nat)(h:i<t.size)(c:UInt8):((t[i].toNat:Int)=(c.toNat:Int))↔t.data.toList[i]?=some c:=by
 have hl:i<t.data.toList.length:=by simpa using h
 have e:t.data.toList[i]?=some t[i]:=by
  rw[List.getElem?_eq_getElem hl];simp;rfl
 rw[e];constructor
 ·intro h2;have h3:t[i].toNat=c.toNat:=by omega
  rw[UInt8.toNat_inj.mp h3]
 ·intro h2;have h3:t[i]=c:=by simpa using h2
  rw[h3]
theorem Lq(t:ByteArray)(k:Nat)(x:List UInt8):((t.extract 0 k).toList == x)=true↔t.data.toList.take k=x:=by
 rw[ByteArray.toList_eq,B0,List.drop_zero,beq_iff_eq]
theorem Ij{s:List UInt8}{k:Nat}{a c:UInt8}{r:List UInt8}(hk:0<k)(h:s.take k=a :: r)(h0:s[0]?=some c):a=c:=by
 have e:(s.take k)[0]?=s[0]?:=by rw[List.getElem?_take,if_pos hk]
 rw[h,h0] at e;simpa using e
theorem C4{s:List UInt8}(h1:¬(2<s.length∧s[0]?=some 91∧s[s.length - 1]?=some 93))(h2:¬(6<s.length∧s.take 5=[123,105,110,116,58]∧s[s.length - 1]?=some 125))(h3:¬(7<s.length∧s.take 6=[123,116,101,120,116,58]∧s[s.length - 1]?=some 125)):innT s=none:=by
 unfold innT;rw[if_neg h1,if_neg h2,if_neg h3]
theorem Pa:∀(f:Nat) (s:List UInt8),H7 f s<=f
 | 0,s=>by simp[H7]
 | f+1,s=>by
  simp only[H7];split
  ·omega
  ·rcases innT s with _ | y
   ·simp
   ·have:=Pa f y;simp only[];split
    ·omega
    ·split <;> omega
theorem Nl(t:ByteArray)(w:World)(h:t=⟨#[105,110,116]⟩∨t=⟨#[98,111,111,108]⟩∨t=⟨#[116,101,120,116]⟩):Calls Tryz.prog 154 #[.string t] w fun r w'=>r=.returned (iv 1)∧w'=w:=by
 rcases h with rfl | rfl | rfl
 all_goals
  go_enter Tryz.func154,Tryz.ntmps154;go_wp2;go_ret;exact⟨rfl,rfl⟩
theorem P5:∀(n:Nat) (t:ByteArray) (w:World),t.size<n->t.size<=9223372036854775807->Calls Tryz.prog 154 #[.string t] w fun r w'=>r=.returned (iv (dep t.data.toList))∧w'=w:=by
 intro n;induction n with
 | zero=>intro t w hn;omega
 | succ n ih=>
  intro t w hn hs;have hlen:t.data.toList.length=t.size:=by simp
  by_cases hb:t.data.toList=[105,110,116]∨t.data.toList=[98,111,111,108]∨t.data.toList=[116,101,120,116]
  ·rw[dep_eq,if_pos hb];refine Nl t w ?_;rcases hb with h | h | h
   ·exact Or.inl (ByteArray.ext (Array.toList_inj.mp h))
   ·exact Or.inr (Or.inl (ByteArray.ext (Array.toList_inj.mp h)))
   ·exact Or.inr (Or.inr (ByteArray.ext (Array.toList_inj.mp h)))
  have h1:(t.toList == [105,110,116])=false:=by rw[ByteArray.toList_eq,beq_eq_false_iff_ne];exact fun h=>hb (Or.inl h)
  have h2:(t.toList == [98,111,111,108])=false:=by rw[ByteArray.toList_eq,beq_eq_false_iff_ne];exact fun h=>hb (Or.inr (Or.inl h))
  have h3:(t.toList == [116,101,120,116])=false:=by rw[ByteArray.toList_eq,beq_eq_false_iff_ne];exact fun h=>hb (Or.inr (Or.inr h))
  have hno:innT t.data.toList=none->(Calls Tryz.prog 154 #[.string t] w fun r w'=>r=.returned (iv 0)∧w'=w)->Calls Tryz.prog 154 #[.string t] w fun r w'=>r=.returned (iv (dep t.data.toList))∧w'=w:=by
   intro h4 h5;rw[dep_eq,if_neg hb,h4];exact h5
  have hyes:∀(a:Nat) (y:List UInt8),innT t.data.toList=some y->(t.extract a (t.size - 1)).data.toList=y->(((t.size<=200->dep y<=300)∧(t.size<=200->Calls Tryz.prog 154 #[.string (t.extract a (t.size - 1))] w fun r w'=>r=.returned (iv (dep y))∧w'=w))->Calls Tryz.prog 154 #[.string t] w fun r w'=>r=.returned (iv ((if 200<t.size then 0 else if dep y=0 then 0 else dep y+1:Nat):Int))∧w'=w)->Calls Tryz.prog 154 #[.string t] w fun r w'=>r=.returned (iv (dep t.data.toList))∧w'=w:=by
   intro a y h4 h5 h6;have hlt:=Hq h4;have hle:=Pa (y.length+1) y;have hsz:(t.extract a (t.size - 1)).size=y.length:=by rw[<-h5,Array.length_toList];rfl
   have h7:=h6 ⟨fun h8=>by show H7 _ _<=_;omega,fun h8=>by
    have:=ih (t.extract a (t.size - 1)) w (by omega) (by omega);rw[h5] at this;exact this⟩
   rw[dep_eq,if_neg hb,h4,hlen];exact h7
  by_cases c1:t.size<=2
  ·refine hno (C4 ?_ ?_ ?_) (R7 t w hs h1 h2 h3 c1) <;> (rintro⟨x1,x2,x3⟩;omega)
  have hA:=Ii t 0 (by omega) 91;have hB:=Ii t (t.size - 1) (by omega) 93;have hC:=Ii t (t.size - 1) (by omega) 125;have hQ:=Lq t 5 [123,105,110,116,58];have hR:=Lq t 6 [123,116,101,120,116,58];by_cases a:(t[0].toNat:Int)=91
  ·have a':=hA.mp a;have q':¬t.data.toList.take 5=[123,105,110,116,58]:=fun h=>by have:=Ij (by omega) h a';simp at this
   have r':¬t.data.toList.take 6=[123,116,101,120,116,58]:=fun h=>by have:=Ij (by omega) h a';simp at this
   have q:((t.extract 0 5).toList == [123,105,110,116,58])=false:=by rw[Bool.eq_false_iff];exact fun h=>q' (hQ.mp h)
   have r:((t.extract 0 6).toList == [123,116,101,120,116,58])=false:=by rw[Bool.eq_false_iff];exact fun h=>r' (hR.mp h)
   by_cases b:(t[t.size - 1].toNat:Int)=93
   ·have b':=hB.mp b;refine hyes 1 _ (by unfold innT;rw[hlen,if_pos ⟨by omega,a',b'⟩]) (B0 _ _ _) fun h=>U9 t w _ h.1 hs h1 h2 h3 (by omega) a b h.2
   ·have b':¬_:=fun h=>b (hB.mpr h)
    refine hno (C4 ?_ ?_ ?_) ?_
    ·rw[hlen];rintro⟨x1,x2,x3⟩;contradiction
    ·rintro⟨x1,x2,x3⟩;contradiction
    ·rintro⟨x1,x2,x3⟩;contradiction
    by_cases c2:t.size<=6
    ·exact R9 t w hs h1 h2 h3 (by omega) c2 a b
    by_cases c3:t.size<=7
    ·exact Sa t w hs h1 h2 h3 (by omega) c3 a b q
    ·exact Sb t w hs h1 h2 h3 (by omega) a b q r
  ·have a':¬_:=fun h=>a (hA.mpr h)
   by_cases c2:t.size<=6
   ·refine hno (C4 ?_ ?_ ?_) (R8 t w hs h1 h2 h3 (by omega) c2 a)
    ·rintro⟨x1,x2,x3⟩;contradiction
    ·rintro⟨x1,x2,x3⟩;omega
    ·rintro⟨x1,x2,x3⟩;omega
   by_cases q':t.data.toList.take 5=[123,105,110,116,58]
   ·have q:=hQ.mpr q';by_cases b:(t[t.size - 1].toNat:Int)=125
    ·have b':=hC.mp b;refine hyes 5 _ (by unfold innT;rw[hlen,if_neg (by rintro⟨x1,x2,x3⟩;contradiction),if_pos ⟨by omega,q',b'⟩]) (B0 _ _ _) fun h=>Va t w _ h.1 hs h1 h2 h3 (by omega) a q b h.2
    ·have b':¬_:=fun h=>b (hC.mpr h)
     refine hno (C4 ?_ ?_ ?_) ?_
     ·rintro⟨x1,x2,x3⟩;contradiction
     ·rw[hlen];rintro⟨x1,x2,x3⟩;contradiction
     ·rw[hlen];rintro⟨x1,x2,x3⟩;contradiction
     by_cases c3:t.size<=7
     ·exact Sh t w hs h1 h2 h3 (by omega) c3 a q b
     ·have r':¬t.data.toList.take 6=[123,116,101,120,116,58]:=fun h=>by
       have e:(t.data.toList.take 6).take 5=t.data.toList.take 5:=by rw[List.take_take];rfl
       rw[h,q'] at e;simp at e
      have r:((t.extract 0 6).toList == [123,116,101,120,116,58])=false:=by rw[Bool.eq_false_iff];exact fun h=>r' (hR.mp h)
      exact Si t w hs h1 h2 h3 (by omega) a q r b
   ·have q:((t.extract 0 5).toList == [123,105,110,116,58])=false:=by rw[Bool.eq_false_iff];exact fun h=>q' (hQ.mp h)
    by_cases c3:t.size<=7
    ·refine hno (C4 ?_ ?_ ?_) (Sc t w hs h1 h2 h3 (by omega) c3 a q)
     ·rintro⟨x1,x2,x3⟩;contradiction
     ·rintro⟨x1,x2,x3⟩;contradiction
     ·rintro⟨x1,x2,x3⟩;omega
    by_cases r':t.data.toList.take 6=[123,116,101,120,116,58]
    ·have r:=hR.mpr r';by_cases b:(t[t.size - 1].toNat:Int)=125
     ·have b':=hC.mp b;refine hyes 6 _ (by unfold innT;rw[hlen,if_neg (by rintro⟨x1,x2,x3⟩;contradiction),if_neg (by rintro⟨x1,x2,x3⟩;contradiction),if_pos ⟨by omega,r',b'⟩]) (B0 _ _ _) fun h=>Vb t w _ h.1 hs h1 h2 h3 (by omega) a q r b h.2
     ·have b':¬_:=fun h=>b (hC.mpr h)
      refine hno (C4 ?_ ?_ ?_) (Sf t w hs h1 h2 h3 (by omega) a q r b)
      ·rintro⟨x1,x2,x3⟩;contradiction
      ·rintro⟨x1,x2,x3⟩;contradiction
      ·rw[hlen];rintro⟨x1,x2,x3⟩;contradiction
    ·have r:((t.extract 0 6).toList == [123,116,101,120,116,58])=false:=by rw[Bool.eq_false_iff];exact fun h=>r' (hR.mp h)
     refine hno (C4 ?_ ?_ ?_) (Se t w hs h1 h2 h3 (by omega) a q r)
     ·rintro⟨x1,x2,x3⟩;contradiction
     ·rintro⟨x1,x2,x3⟩;contradiction
     ·rintro⟨x1,x2,x3⟩;contradiction
theorem Nm(t:ByteArray)(w:World)(hs:t.size<=9223372036854775807):Calls Tryz.prog 135 #[.string t] w fun r w'=>r=.returned (.bool (Es t.data.toList))∧w'=w:=by
 have hd:=P5 _ t w (Nat.lt_succ_self _) hs;rw[Py];generalize dep t.data.toList=d at hd;go_enter Tryz.func135,Tryz.ntmps135;go_wp2_with fail;refine hd.mono ?_;rintro e w1 ⟨rfl,rfl⟩;go_wp2
 all_goals
  go_ret;refine⟨ret_bool ?_,rfl⟩
  first
  |(rw[decide_eq_decide];omega)
  |(rw[decide_eq_false (show ¬1<=d by omega)];rfl)
theorem Gw(s a c:ByteArray)(w:World)(hs:s.size<=maxLen) :
  Calls Tryz.prog 184 #[.string s,.string a,.string c] w fun e w'=>(∃z,e=.returned (.tuple #[.string z,.bool (betw s.data.toList a.data.toList c.data.toList).isSome])∧z.size<=s.size∧∀y,betw s.data.toList a.data.toList c.data.toList=some y->z=⟨y.toArray⟩)∧w'=w:=by
 have hl:(Lib.trimPrefix s.data.toList a.data.toList).length<=s.size:=by
  unfold Lib.trimPrefix;have:s.data.toList.length=s.size:=by simp
  split <;> simp <;> omega
 have hz:(Lib.trimSuffix (Lib.trimPrefix s.data.toList a.data.toList) c.data.toList).length<=s.size:=by
  refine Nat.le_trans ?_ hl;generalize Lib.trimPrefix s.data.toList a.data.toList=q;unfold Lib.trimSuffix;split <;> simp
 have h1:=Tryz.strings_CutPrefix s a w;have h2:=Tryz.strings_CutSuffix ⟨(Lib.trimPrefix s.data.toList a.data.toList).toArray⟩ c w (by show (Lib.trimPrefix s.data.toList a.data.toList).toArray.size<=_;unfold maxLen at hs;simp;omega);have hr:(betw s.data.toList a.data.toList c.data.toList).isSome=(Lib.hasPrefix s.data.toList a.data.toList && Lib.hasSuffix (Lib.trimPrefix s.data.toList a.data.toList) c.data.toList):=by
  unfold betw;split
  ·rename_i h;rw[h];rfl
  ·rename_i h;simp only[Bool.not_eq_true] at h;rw[h];rfl
 have hy:∀y,betw s.data.toList a.data.toList c.data.toList=some y->y=Lib.trimSuffix (Lib.trimPrefix s.data.toList a.data.toList) c.data.toList:=by
  intro y h;unfold betw at h;split at h
  ·simpa using h.symm
  ·cases h
 rw[hr];have hd:(ByteArray.mk (Lib.trimPrefix s.data.toList a.data.toList).toArray).data.toList=Lib.trimPrefix s.data.toList a.data.toList:=by simp
 rw[hd] at h2;clear hd hl;generalize Lib.trimSuffix (Lib.trimPrefix s.data.toList a.data.toList) c.data.toList=z at *;generalize Lib.hasSuffix (Lib.trimPrefix s.data.toList a.data.toList) c.data.toList=q at *;generalize Lib.trimPrefix s.data.toList a.data.toList=z1 at *;generalize Lib.hasPrefix s.data.toList a.data.toList=p at *;have hf:(∃z':ByteArray,Ending.returned (.tuple #[.string ⟨z.toArray⟩,.bool (p && q)])=.returned (.tuple #[.string z',.bool (p && q)])∧z'.size<=s.size∧∀y,betw s.data.toList a.data.toList c.data.toList=some y->z'=⟨y.toArray⟩):=
  ⟨⟨z.toArray⟩,rfl,by show z.toArray.size<=_;simpa using hz,fun y h=>by rw[hy y h]⟩
 clear hy hr hz;cases p
 all_goals
  go_enter Tryz.func184,Tryz.ntmps184;go_wp2_with (go_at_call 186;refine h1.mono ?_;rintro e w' ⟨rfl,rfl⟩);go_wp2_with (go_at_call 187;refine h2.mono ?_;rintro e w' ⟨rfl,rfl⟩);go_wp2
  go_ret2
  exact⟨by simpa using hf,rfl⟩
theorem Eu(s:ByteArray)(a c y:List UInt8)(w:World)(hs:s.size<=maxLen)(h:betw s.data.toList a c=some y) :
  Calls Tryz.prog 184 #[.string s,.string ⟨a.toArray⟩,.string ⟨c.toArray⟩] w fun e w'=>e=.returned (.tuple #[.string ⟨y.toArray⟩,.bool true])∧w'=w:=by
 refine (Gw s ⟨a.toArray⟩ ⟨c.toArray⟩ w hs).mono ?_;rintro e w' ⟨⟨z,rfl,_,hz⟩,rfl⟩;simp only[List.toList_toArray] at hz ⊢;rw[h,hz y h];exact⟨rfl,trivial⟩
theorem C3(s:ByteArray)(a c:List UInt8)(w:World)(hs:s.size<=maxLen)(h:betw s.data.toList a c=none) :
  Calls Tryz.prog 184 #[.string s,.string ⟨a.toArray⟩,.string ⟨c.toArray⟩] w fun e w'=>(∃z,e=.returned (.tuple #[.string z,.bool false]))∧w'=w:=by
 refine (Gw s ⟨a.toArray⟩ ⟨c.toArray⟩ w hs).mono ?_;rintro e w' ⟨⟨z,rfl,_,hz⟩,rfl⟩;simp only[List.toList_toArray];rw[h];exact⟨⟨z,rfl⟩,trivial⟩
theorem Nk(s:ByteArray)(w:World)(hs:s.size<=maxLen)(h:elemT s.data.toList=none) :
  Calls Tryz.prog 182 #[.string s] w fun e w'=>(∃z,e=.returned (.tuple #[.string z,.bool false]))∧w'=w:=by
 unfold elemT at h;rcases e1:betw s.data.toList [91] [93] with _ | y1
 ·rw[e1] at h;rcases e2:betw s.data.toList [123,105,110,116,58] [125] with _ | y2
  ·rw[e2] at h;have h1:=C3 s _ _ w hs e1;have h2:=C3 s _ _ w hs e2;have h3:=C3 s _ _ w hs h;clear e1 e2 h;go_enter Tryz.func182,Tryz.ntmps182;go_wp2_with fail;refine h1.mono ?_;rintro e w' ⟨⟨z1,rfl⟩,rfl⟩;go_wp2_with fail;refine h2.mono ?_;rintro e w' ⟨⟨z2,rfl⟩,rfl⟩;go_wp2_with fail;refine h3.mono ?_;rintro e w' ⟨⟨z3,rfl⟩,rfl⟩;go_wp2
   go_ret2
   exact⟨⟨z3,rfl⟩,rfl⟩
  ·rw[e2] at h;cases h
 ·rw[e1] at h;cases h
theorem Lp(s:ByteArray)(y:List UInt8)(w:World)(hs:s.size<=maxLen)(h:elemT s.data.toList=some y) :
  Calls Tryz.prog 182 #[.string s] w fun e w'=>e=.returned (.tuple #[.string ⟨y.toArray⟩,.bool true])∧w'=w:=by
 unfold elemT at h;rcases e1:betw s.data.toList [91] [93] with _ | y1
 ·rw[e1] at h;rcases e2:betw s.data.toList [123,105,110,116,58] [125] with _ | y2
  ·rw[e2] at h;have h1:=C3 s _ _ w hs e1;have h2:=C3 s _ _ w hs e2;have h3:=Eu s _ _ y w hs h;clear e1 e2 h;go_enter Tryz.func182,Tryz.ntmps182;go_wp2_with fail;refine h1.mono ?_;rintro e w' ⟨⟨z1,rfl⟩,rfl⟩;go_wp2_with fail;refine h2.mono ?_;rintro e w' ⟨⟨z2,rfl⟩,rfl⟩;go_wp2_with fail;refine h3.mono ?_;rintro e w' ⟨rfl,rfl⟩;go_wp2
   go_ret2
   exact⟨rfl,rfl⟩
  ·rw[e2] at h;simp only[Option.some.injEq] at h;subst h;have h1:=C3 s _ _ w hs e1;have h2:=Eu s _ _ y2 w hs e2;clear e1 e2;go_enter Tryz.func182,Tryz.ntmps182;go_wp2_with fail;refine h1.mono ?_;rintro e w' ⟨⟨z1,rfl⟩,rfl⟩;go_wp2_with fail;refine h2.mono ?_;rintro e w' ⟨rfl,rfl⟩;go_wp2
   go_ret2
   exact⟨rfl,rfl⟩
 ·rw[e1] at h;simp only[Option.some.injEq] at h;subst h;have h1:=Eu s _ _ y1 w hs e1;clear e1;go_enter Tryz.func182,Tryz.ntmps182;go_wp2_with fail;refine h1.mono ?_;rintro e w' ⟨rfl,rfl⟩;go_wp2
  go_ret2
  exact⟨rfl,rfl⟩
theorem R6{s y:List UInt8}(h:elemT s=some y):y.length<=s.length:=by
 unfold elemT at h;rcases e1:betw s [91] [93] with _ | y1
 ·rw[e1] at h;rcases e2:betw s [123,105,110,116,58] [125] with _ | y2
  ·rw[e2] at h;rw[(Cc _ _ _ _).1 h];simp;omega
  ·rw[e2] at h;simp only[Option.some.injEq] at h;subst h;rw[(Cc _ _ _ _).1 e2];simp;omega
 ·rw[e1] at h;simp only[Option.some.injEq] at h;subst h;rw[(Cc _ _ _ _).1 e1];simp;omega
theorem Ig{s:ByteArray}{l:List UInt8}(h:s.data.toList=l):s=⟨l.toArray⟩:=by
 cases s;simp at h;subst h;simp
theorem Ih:∀(f d:Nat),d+f=5->∀(s:ByteArray) (w:World),s.size<=maxLen ->
  Calls Tryz.prog 179 #[.string s,iv d] w fun e w'=>e=.returned (.bool (tyF f s.data.toList))∧w'=w
 | 0,d,hd,s,w,hs=>by
  have hdI:(4:Int)<(d:Int):=by omega
  go_enter Tryz.func179,Tryz.ntmps179;go_wp2;go_ret;exact⟨rfl,rfl⟩
 | f+1,d,hd,s,w,hs=>by
  have hdI:¬(4:Int)<(d:Int):=by omega
  have ih:=Ih f (d+1) (by omega);rw[tyF];by_cases c1:s.data.toList=[105,110,116]∨s.data.toList=[98,111,111,108]∨s.data.toList=[116,101,120,116]
  ·rw[if_pos c1];have hl:s=⟨#[105,110,116]⟩∨s=⟨#[98,111,111,108]⟩∨s=⟨#[116,101,120,116]⟩:=by
    rcases c1 with h | h | h
    ·exact Or.inl (Ig h)
    ·exact Or.inr (Or.inl (Ig h))
    ·exact Or.inr (Or.inr (Ig h))
   clear c1 ih;rcases hl with rfl | rfl | rfl
   all_goals
    go_enter Tryz.func179,Tryz.ntmps179;go_wp2;go_ret;exact⟨rfl,rfl⟩
  rw[if_neg c1];have q1:(s.toList == [105,110,116])=false:=by rw[ByteArray.toList_eq];simp;exact fun h=>c1 (Or.inl h)
  have q2:(s.toList == [98,111,111,108])=false:=by rw[ByteArray.toList_eq];simp;exact fun h=>c1 (Or.inr (Or.inl h))
  have q3:(s.toList == [116,101,120,116])=false:=by rw[ByteArray.toList_eq];simp;exact fun h=>c1 (Or.inr (Or.inr h))
  clear c1;rcases he:elemT s.data.toList with _ | y
  ·have hE:=Nk s w hs he;go_enter Tryz.func179,Tryz.ntmps179;go_wp2_with fail;refine hE.mono ?_;rintro e w' ⟨⟨z,rfl⟩,rfl⟩;go_wp2;go_ret;exact⟨rfl,rfl⟩
  ·have hE:=Lp s y w hs he;have hdI2:(d:Int)+1<=9223372036854775807:=by omega
   have hl:=R6 he;have hI:=ih ⟨y.toArray⟩ w (by show y.toArray.size<=_;have:s.data.toList.length=s.size:=(by simp);simp;omega);simp only[List.toList_toArray,Int.natCast_add,Int.cast_ofNat_Int] at hI;go_enter Tryz.func179,Tryz.ntmps179;go_wp2_with fail;refine hE.mono ?_;rintro e w' ⟨rfl,rfl⟩;go_wp2_with fail;refine hI.mono ?_;rintro e w' ⟨rfl,rfl⟩;go_wp2;go_ret;exact⟨rfl,rfl⟩
theorem P4(s:ByteArray)(w:World)(hs:s.size<=maxLen) :
  Calls Tryz.prog 173 #[.string s] w fun e w'=>e=.returned (.bool (Es s.data.toList))∧w'=w:=by
 have h:=Ih 4 1 rfl s w hs;rw[<-Pv] at h;go_enter Tryz.func173,Tryz.ntmps173;go_wp2_with (go_at_call 179;refine h.mono ?_;rintro e w' ⟨rfl,rfl⟩);go_ret;exact⟨rfl,rfl⟩
end
section
def kd:Ty->Int
 | .int=>1 | .bool=>2 | .text=>3 | .list _=>4 | .map _ _=>5
def kdOf(s:List UInt8):Int:=match tyOf s with
 | none=>0
 | some T=>kd T
def elT(s:List UInt8):List UInt8 × Bool:=match tyOf s with
 | some (.list T)=>(tyT T,true)
 | _=>([],false)
def mpT(s:List UInt8):List UInt8 × List UInt8 × Bool:=match tyOf s with
 | some (.map k T)=>(keyT k,tyT T,true)
 | _=>([],[],false)
def Cd(k:Bool):Ty:=if k then .int else .text
theorem keyTy_T(k:Bool):tyT (Cd k)=keyT k:=by cases k <;> rfl
theorem Lh(k:Bool):(Cd k).dp=1:=by cases k <;> rfl
def bareB(v:V):Bool:=((v.k == 1 || v.k == 2) || v.n == 0) && ((v.k == 3) || v.t == []) && ((v.k == 4 || v.k == 5) || v.l.length == 0)
def Rt:Bool->V->Prop
 | true,v=>v.k=1∧v.t=[]∧v.l=[]
 | false,v=>v.k=3∧v.n=0∧v.l=[]∧v.t.length<=256
def Shp:Ty->V->Prop
 | .int,v=>v.k=1∧v.t=[]∧v.l=[]
 | .bool,v=>v.k=2∧v.t=[]∧v.l=[]∧(v.n=0∨v.n=1)
 | .text,v=>v.k=3∧v.n=0∧v.l=[]∧v.t.length<=256
 | .list T,v=>v.k=4∧v.n=0∧v.t=[]∧v.l.length<=64∧∀x∈v.l,Shp T x
 | .map k T,v=>v.k=5∧v.n=0∧v.t=[]∧v.l.length % 2=0∧v.l.length<=128 ∧
   (∀i x,v.l[2*i]?=some x->Rt k x)∧(∀i x,v.l[2*i+1]?=some x->Shp T x)∧(∀i x y,v.l[2*i]?=some x->v.l[2*i+2]?=some y->cmpV x y<0)
theorem Li(k:Bool)(v:V):Rt k v↔Shp (Cd k) v:=by
 cases k
 ·show _↔Shp .text v;rw[Shp,Rt]
 ·show _↔Shp .int v;rw[Shp,Rt]
noncomputable def shpB (T:Ty) (v:V):Bool:=@decide (Shp T v) (Classical.propDecidable _)
theorem Bf{T:Ty}{v:V}:shpB T v=true↔Shp T v:=by unfold shpB;simp
theorem Bb{T:Ty}{v:V}:shpB T v=false↔¬Shp T v:=by unfold shpB;simp
noncomputable def shpS (s:List UInt8) (v:V):Bool:=match tyOf s with
 | none=>false
 | some T=>shpB T v
noncomputable def fitS (s:List UInt8) (v:V):Bool:=shpS s v && decide (wt v<=16384)
theorem Shp.kind:∀{T:Ty} {v:V},Shp T v->v.k=kd T
 | .int,v,h=>by rw[Shp] at h;exact h.1
 | .bool,v,h=>by rw[Shp] at h;exact h.1
 | .text,v,h=>by rw[Shp] at h;exact h.1
 | .list T,v,h=>by rw[Shp] at h;exact h.1
 | .map k T,v,h=>by rw[Shp] at h;exact h.1
theorem Shp.bare:∀{T:Ty} {v:V},Shp T v->bareB v=true
 | .int,v,h=>by rw[Shp] at h;simp[bareB,h]
 | .bool,v,h=>by rw[Shp] at h;simp[bareB,h.1,h.2.1,h.2.2.1]
 | .text,v,h=>by rw[Shp] at h;simp[bareB,h.1,h.2.1,h.2.2.1]
 | .list T,v,h=>by rw[Shp] at h;simp[bareB,h.1,h.2.1,h.2.2.1]
 | .map k T,v,h=>by rw[Shp] at h;simp[bareB,h.1,h.2.1,h.2.2.1]
theorem U2{v:V}(h1:v.k=1)(h2:bareB v=true):Shp .int v:=by
 rw[Shp];simp[bareB,h1] at h2;exact⟨h1,h2.1,h2.2⟩
theorem Ru{v:V}(h1:v.k=2)(h2:bareB v=true):Shp .bool v↔(v.n=0∨v.n=1):=by
 rw[Shp];simp[bareB,h1] at h2;exact⟨fun h=>h.2.2.2,fun h=>⟨h1,h2.1,h2.2,h⟩⟩
theorem Rv{v:V}(h1:v.k=3)(h2:bareB v=true):Shp .text v↔v.t.length<=256:=by
 rw[Shp];simp[bareB,h1] at h2;exact⟨fun h=>h.2.2.2,fun h=>⟨h1,h2.1,h2.2,h⟩⟩
theorem Rx{T:Ty}{v:V}(h1:v.k=4)(h2:bareB v=true):Shp (.list T) v↔v.l.length<=64∧∀x∈v.l,Shp T x:=by
 rw[Shp];simp[bareB,h1] at h2;exact⟨fun h=>h.2.2.2,fun h=>⟨h1,h2.1,h2.2,h⟩⟩
theorem O3{k:Bool}{T:Ty}{v:V}(h1:v.k=5)(h2:bareB v=true):Shp (.map k T) v↔v.l.length % 2=0∧v.l.length<=128 ∧
   (∀i x,v.l[2*i]?=some x->Rt k x)∧(∀i x,v.l[2*i+1]?=some x->Shp T x)∧(∀i x y,v.l[2*i]?=some x->v.l[2*i+2]?=some y->cmpV x y<0):=by
 rw[Shp];simp[bareB,h1] at h2;exact⟨fun h=>h.2.2.2,fun h=>⟨h1,h2.1,h2.2,h⟩⟩
theorem Kd{T:Ty}(h:T.dp<=4)(v:V):shpS (tyT T) v=shpB T v:=by unfold shpS;rw[Cs h]
end
section
open Go.RowKit
theorem Vc(l:List UInt8)(hl:l.length<=9223372036854775807)(w:World):Calls Tryz.prog 173 #[.string ⟨l.toArray⟩] w fun e w'=>e=.returned (.bool (Es l))∧w'=w:=by
 have:=P4 ⟨l.toArray⟩ w (by show l.toArray.size<=maxLen;unfold maxLen;simpa using hl);simpa only[List.toList_toArray] using this
theorem Hr(l:List UInt8)(hl:l.length<=9223372036854775807)(w:World):Calls Tryz.prog 135 #[.string ⟨l.toArray⟩] w fun e w'=>e=.returned (.bool (Es l))∧w'=w:=by
 have:=Nm ⟨l.toArray⟩ w (by show l.toArray.size<=9223372036854775807;simpa using hl);simpa only[List.toList_toArray] using this
theorem P7(T:Ty):∃c r,tyT T=c :: r∧(kd T=4↔c=91)∧(kd T=5↔c=123):=by
 cases T with
 | int=>exact⟨_,_,rfl,by decide,by decide⟩
 | bool=>exact⟨_,_,rfl,by decide,by decide⟩
 | text=>exact⟨_,_,rfl,by decide,by decide⟩
 | list t=>exact⟨_,_,rfl,by simp[kd],by simp[kd]⟩
 | map k t=>exact⟨123,keyT k ++ [58] ++ tyT t ++ [125],by simp[tyT],by simp[kd],by simp[kd]⟩
theorem Dr(l:List UInt8)(hl:l.length<=9223372036854775807)(w:World):Calls Tryz.prog 164 #[.string ⟨l.toArray⟩] w fun e w'=>e=.returned (iv (kdOf l))∧w'=w:=by
 have hT:=Vc l hl w;unfold Es at hT;rcases h:tyOf l with _ | T
 ·rw[h] at hT;have hk:Hid (kdOf l=0):=by show _=_;unfold kdOf;rw[h]
  clear h;go_enter Tryz.func164,Tryz.ntmps164;go_wp2_with (go_at_call 173;refine hT.mono ?_;rintro e w' ⟨rfl,rfl⟩);go_ret;exact⟨ret_int hk.out.symm,rfl⟩
 ·rw[h] at hT;have hk:Hid (kdOf l=kd T):=by show _=_;unfold kdOf;rw[h]
  obtain⟨h1,h2⟩:=(B4 _ _).1 h;have hlen:=Bh T;clear h;subst h1;rcases T with _ | _ | _ | t | ⟨k,t⟩
  ·go_enter Tryz.func164,Tryz.ntmps164;go_wp2_with (go_at_call 173;refine hT.mono ?_;rintro e w' ⟨rfl,rfl⟩);go_ret;exact⟨ret_int hk.out.symm,rfl⟩
  ·go_enter Tryz.func164,Tryz.ntmps164;go_wp2_with (go_at_call 173;refine hT.mono ?_;rintro e w' ⟨rfl,rfl⟩);go_ret;exact⟨ret_int hk.out.symm,rfl⟩
  ·go_enter Tryz.func164,Tryz.ntmps164;go_wp2_with (go_at_call 173;refine hT.mono ?_;rintro e w' ⟨rfl,rfl⟩);go_ret;exact⟨ret_int hk.out.symm,rfl⟩
  ·have e:tyT (.list t)=91 :: (tyT t ++ [93]):=rfl;rw[e] at hT hlen hk ⊢;generalize tyT t ++ [93]=r at *;simp only[List.length_cons] at hlen hl;go_enter Tryz.func164,Tryz.ntmps164;go_wp2_with (go_at_call 173;refine hT.mono ?_;rintro e w' ⟨rfl,rfl⟩);go_ret;exact⟨ret_int hk.out.symm,rfl⟩
  ·have e:tyT (.map k t)=123 :: (keyT k ++ ([58] ++ tyT t ++ [125])):=by simp[tyT]
   rw[e] at hT hlen hk ⊢;generalize keyT k ++ ([58] ++ tyT t ++ [125])=r at *;simp only[List.length_cons] at hlen hl;go_enter Tryz.func164,Tryz.ntmps164;go_wp2_with (go_at_call 173;refine hT.mono ?_;rintro e w' ⟨rfl,rfl⟩);go_ret;exact⟨ret_int hk.out.symm,rfl⟩
theorem Gx{s:ByteArray}{l:List UInt8}(h:s.data.toList=l):s=⟨l.toArray⟩:=by
 cases s;simp at h;subst h;simp
theorem Lr(a z:UInt8)(m:List UInt8)(hm:m.length<=1000)(w:World):Calls Tryz.prog 180 #[.string ⟨(a :: (m ++ [z])).toArray⟩] w fun e w'=>e=.returned (.string ⟨m.toArray⟩)∧w'=w:=by
 have hz:(⟨(a :: (m ++ [z])).toArray⟩:ByteArray).size=m.length+2:=by show (a :: (m ++ [z])).toArray.size=_;simp
 have he:(⟨(a :: (m ++ [z])).toArray⟩:ByteArray).extract 1 (m.length+2 - 1)=⟨m.toArray⟩:=Gx (by rw[B0];simp);generalize (⟨(a :: (m ++ [z])).toArray⟩:ByteArray)=s at *;go_enter Tryz.func180,Tryz.ntmps180;go_wp2;go_ret;exact⟨by first | rfl | exact congrArg (fun x=>Ending.returned (.string x)) he,rfl⟩
theorem Nn(s:ByteArray)(w:World)(hs:s.size<=281474976710656):Calls Tryz.prog 67 #[.string s] w fun e w'=>e=.returned (.string s)∧Below w.heap.size w w':=by
 go_enter Tryz.func67,Tryz.ntmps67;go_wp2_with (go_at_call 102;refine (Tryz.stringslite_Clone s _ hs).mono ?_;rintro e w1 ⟨rfl,hb⟩);go_ret;exact⟨rfl,hb⟩
theorem Ev(l:List UInt8)(w:World)(hs:l.length<=281474976710656):Calls Tryz.prog 67 #[.string ⟨l.toArray⟩] w fun e w'=>e=.returned (.string ⟨l.toArray⟩)∧Below w.heap.size w w':=Nn _ w (by show l.toArray.size<=_;simpa using hs)
theorem Sj(l:List UInt8)(hl:l.length<=9223372036854775807)(w:World):Calls Tryz.prog 174 #[.string ⟨l.toArray⟩] w fun e w'=>e=.returned (.tuple #[.string ⟨(elT l).1.toArray⟩,.bool (elT l).2])∧Below w.heap.size w w':=by
 have hK:=Dr l hl w;rcases h:tyOf l with _ | T
 ·have hk:kdOf l=0:=by unfold kdOf;rw[h]
  have he:elT l=([],false):=by unfold elT;rw[h]
  rw[hk] at hK;rw[he];clear h hk he;go_enter Tryz.func174,Tryz.ntmps174;go_wp2_with (go_at_call 164;refine hK.mono ?_;rintro e w' ⟨rfl,rfl⟩)
  go_ret2
  exact⟨rfl,Below.refl _ _⟩
 ·have hk:kdOf l=kd T:=by unfold kdOf;rw[h]
  obtain⟨h1,h2⟩:=(B4 _ _).1 h;rw[hk] at hK;by_cases h4:kd T=4
  ·cases T with
   | list t=>
    have he:elT l=(tyT t,true):=by unfold elT;rw[h]
    rw[he];clear h hk he;subst h1;have hlen:=Bh t;simp only[Ty.dp] at h2;have hI:=Lr 91 93 (tyT t) (by omega) w;have hC:=Ev (tyT t) w (by omega);have e:tyT (.list t)=91 :: (tyT t ++ [93]):=rfl;rw[<-e] at hI;have e4:kd (.list t)=4:=rfl;rw[e4] at hK;clear e e4 h4 hl;generalize tyT (.list t)=z at *;generalize tyT t=y at *;clear hlen;go_enter Tryz.func174,Tryz.ntmps174;go_wp2_with fail;refine hK.mono ?_;rintro e w' ⟨rfl,rfl⟩;go_wp2_with fail;refine hI.mono ?_;rintro e w' ⟨rfl,rfl⟩;go_wp2_with fail;refine hC.mono ?_;rintro e w' ⟨rfl,hb⟩;go_wp2
    go_ret2
    exact⟨rfl,hb⟩
   | _=>exact absurd h4 (by simp[kd])
  ·have he:elT l=([],false):=by
    unfold elT;rw[h];cases T <;> first | rfl | exact absurd rfl h4
   rw[he];have h4':(kd T != 4)=true:=by simp[h4]
   clear h hk he h1;generalize kd T=z at *;go_enter Tryz.func174,Tryz.ntmps174;go_wp2_with (go_at_call 164;refine hK.mono ?_;rintro e w' ⟨rfl,rfl⟩)
   go_ret2
   exact⟨rfl,Below.refl _ _⟩
theorem Sk:∀(k:Bool) (y:List UInt8),Lib.indexByte (keyT k ++ 58 :: y) 58=(keyT k).length:=by
 intro k y;cases k <;> simp[keyT,Lib.indexByte]
theorem Sl(k:Bool)(y:List UInt8)(w:World)(hy:y.length<=1000):Calls Tryz.prog 185 #[.string ⟨(keyT k ++ 58 :: y).toArray⟩,.string ⟨#[58]⟩] w fun e w'=>e=.returned (iv (keyT k).length)∧w'=w:=by
 have hI:=Tryz.stringslite_IndexByte ⟨(keyT k ++ 58 :: y).toArray⟩ 58 w;rw[show (⟨(keyT k ++ 58 :: y).toArray⟩:ByteArray).data.toList=keyT k ++ 58 :: y from by simp,show (58:Int).toNat.toUInt8=58 from by decide,Sk] at hI;have hne:((⟨#[58]⟩:ByteArray).toList == (⟨(keyT k ++ 58 :: y).toArray⟩:ByteArray).toList)=false:=by
  rw[ByteArray.toList_eq,ByteArray.toList_eq];cases k <;> simp[keyT]
 have hne2:(keyT k ++ 58 :: y == [58])=false:=by cases k <;> simp[keyT]
 have hne3:([58] == keyT k ++ 58 :: y)=false:=by cases k <;> simp[keyT]
 generalize keyT k ++ 58 :: y=z at *;go_enter Tryz.func185,Tryz.ntmps185;go_wp2_with fail;refine hI.mono ?_;rintro e w' ⟨rfl,rfl⟩;go_wp2;go_ret;exact⟨rfl,rfl⟩
theorem W6(k:Bool)(y:List UInt8)(w:World)(hy:y.length<=1000):Calls Tryz.prog 183 #[.string ⟨(keyT k ++ 58 :: y).toArray⟩,.string ⟨#[58]⟩] w fun e w'=>e=.returned (.tuple #[.string ⟨(keyT k).toArray⟩,.string ⟨y.toArray⟩,.bool true])∧Below w.heap.size w w':=by
 have hI:=Sl k y w hy;have hz:(⟨(keyT k ++ 58 :: y).toArray⟩:ByteArray).size=(keyT k).length+1+y.length:=by show (keyT k ++ 58 :: y).toArray.size=_;simp;omega
 have h1:(⟨(keyT k ++ 58 :: y).toArray⟩:ByteArray).extract 0 (keyT k).length=⟨(keyT k).toArray⟩:=Gx (by rw[B0];simp);have h2:(⟨(keyT k ++ 58 :: y).toArray⟩:ByteArray).extract ((keyT k).length+1) ((keyT k).length+1+y.length)=⟨y.toArray⟩:=Gx (by
  rw[B0,List.take_of_length_le (by simp;omega),List.drop_append];simp)
 have hkl:(keyT k).length<=4:=by cases k <;> simp[keyT]
 generalize (⟨(keyT k ++ 58 :: y).toArray⟩:ByteArray)=s at *;generalize hn:(keyT k).length=n at *;clear hn;generalize keyT k=kt at *;have b1:(0:Int)<=(n:Int):=by omega
 have b2:(n:Int)<=(s.size:Int):=by omega
 have b3:(n:Int)+1<=(s.size:Int):=by omega
 go_enter Tryz.func183,Tryz.ntmps183;go_wp2_with fail;refine hI.mono ?_;rintro e w' ⟨rfl,rfl⟩;clear hI;go_wp2_with fail
 go_quiet (fail)
 go_wp2
 go_ret3
 exact⟨rfl,Af _ _⟩
theorem W7(k:Bool)(y:List UInt8)(w:World)(hy:y.length<=1000):Calls Tryz.prog 181 #[.string ⟨(keyT k ++ 58 :: y).toArray⟩,.string ⟨#[58]⟩] w fun e w'=>e=.returned (.tuple #[.string ⟨(keyT k).toArray⟩,.string ⟨y.toArray⟩,.bool true])∧Below w.heap.size w w':=by
 have hI:=W6 k y w hy;generalize (⟨(keyT k ++ 58 :: y).toArray⟩:ByteArray)=s at *;go_enter Tryz.func181,Tryz.ntmps181;go_wp2_with fail;refine hI.mono ?_;rintro e w' ⟨rfl,hb⟩;clear hI;go_wp2
 go_ret3
 exact⟨rfl,hb⟩
theorem Vd(l:List UInt8)(hl:l.length<=9223372036854775807)(w:World):Calls Tryz.prog 176 #[.string ⟨l.toArray⟩] w fun e w'=>e=.returned (.tuple #[.string ⟨(mpT l).1.toArray⟩,.string ⟨(mpT l).2.1.toArray⟩,.bool (mpT l).2.2])∧Below w.heap.size w w':=by
 have hK:=Dr l hl w;rcases h:tyOf l with _ | T
 ·have hk:kdOf l=0:=by unfold kdOf;rw[h]
  have he:mpT l=([],[],false):=by unfold mpT;rw[h]
  rw[hk] at hK;rw[he];clear h hk he;go_enter Tryz.func176,Tryz.ntmps176;go_wp2_with (go_at_call 164;refine hK.mono ?_;rintro e w' ⟨rfl,rfl⟩)
  go_ret3
  exact⟨rfl,Below.refl _ _⟩
 ·have hk:kdOf l=kd T:=by unfold kdOf;rw[h]
  obtain⟨h1,h2⟩:=(B4 _ _).1 h;rw[hk] at hK;by_cases h4:kd T=5
  ·cases T with
   | map k t=>
    have he:mpT l=(keyT k,tyT t,true):=by unfold mpT;rw[h]
    rw[he];clear h hk he;subst h1;have hlen:=Bh t;have hkl:(keyT k).length<=4:=by cases k <;> simp[keyT]
    simp only[Ty.dp] at h2;have hI:=Lr 123 125 (keyT k ++ 58 :: tyT t) (by simp;omega) w;have hC:=W7 k (tyT t) w (by omega);have hC1:=fun w=>Ev (keyT k) w (by omega)
    have hC2:=fun w=>Ev (tyT t) w (by omega)
    have e:tyT (.map k t)=123 :: ((keyT k ++ 58 :: tyT t) ++ [125]):=by simp[tyT]
    rw[<-e] at hI;have e4:kd (.map k t)=5:=rfl;rw[e4] at hK;clear e e4 h4 hl;generalize tyT (.map k t)=z at *;generalize keyT k ++ 58 :: tyT t=m at *;generalize tyT t=y at *;generalize keyT k=kt at *;clear hlen hkl;go_enter Tryz.func176,Tryz.ntmps176;go_wp2_with fail;refine hK.mono ?_;rintro e w' ⟨rfl,rfl⟩;go_wp2_with fail;refine hI.mono ?_;rintro e w' ⟨rfl,rfl⟩;go_wp2_with fail;refine hC.mono ?_;rintro e w2 ⟨rfl,hb2⟩;go_wp2_with fail;refine (hC1 _).mono ?_;rintro e w3 ⟨rfl,hb3⟩;go_wp2_with fail;refine (hC2 _).mono ?_;rintro e w4 ⟨rfl,hb4⟩;go_wp2
    go_ret3
    exact⟨rfl,hb2.trans ((hb3.trans (hb4.mono hb3.size)).mono hb2.size)⟩
   | _=>exact absurd h4 (by simp[kd])
  ·have he:mpT l=([],[],false):=by
    unfold mpT;rw[h];cases T <;> first | rfl | exact absurd rfl h4
   rw[he];have h4':(kd T != 5)=true:=by simp[h4]
   clear h hk he h1;generalize kd T=z at *;go_enter Tryz.func176,Tryz.ntmps176;go_wp2_with (go_at_call 164;refine hK.mono ?_;rintro e w' ⟨rfl,rfl⟩)
   go_ret3
   exact⟨rfl,Below.refl _ _⟩
theorem Ki(n:Int)(w:World):Calls Tryz.prog 65 #[iv n] w fun e w'=>e=.returned (.agg #[iv 1,iv n,.string ⟨#[]⟩,sZ])∧Below w.heap.size w w':=by
 go_enter Tryz.func65,Tryz.ntmps65;go_wp2;exact bodyPost_ret (v:=.agg #[iv 1,iv n,.string ⟨#[]⟩,sZ]) (by simp[results,Tryz.results65,go_sem]) rfl ⟨rfl,(Below.refl _ _).alloc (Nat.le_refl _) _⟩
theorem Ew(b:Bool)(w:World):Calls Tryz.prog 87 #[.bool b] w fun e w'=>e=.returned (.agg #[iv 2,iv (if b then 1 else 0),.string ⟨#[]⟩,sZ])∧Below w.heap.size w w':=by
 cases b
 ·go_enter Tryz.func87,Tryz.ntmps87;go_wp2;exact bodyPost_ret (v:=.agg #[iv 2,iv 0,.string ⟨#[]⟩,sZ]) (by simp[results,Tryz.results87,go_sem]) rfl ⟨rfl,((Below.refl _ _).alloc (Nat.le_refl _) _).alloc (by simp) _⟩
 ·go_enter Tryz.func87,Tryz.ntmps87;go_wp2;exact bodyPost_ret (v:=.agg #[iv 2,iv 1,.string ⟨#[]⟩,sZ]) (by simp[results,Tryz.results87,go_sem]) rfl ⟨rfl,((Below.refl _ _).alloc (Nat.le_refl _) _).alloc (by simp) _⟩
theorem Ls(l:List UInt8)(hl:l.length<=281474976710656)(w:World):Calls Tryz.prog 90 #[.string ⟨l.toArray⟩] w fun e w'=>e=.returned (.agg #[iv 3,iv 0,.string ⟨l.toArray⟩,sZ])∧Below w.heap.size w w':=by
 have hC:=fun w=>Ev l w hl
 obtain⟨w0,hW,hb0,hs0,hr⟩:=G5 w;go_enter Tryz.func90,Tryz.ntmps90;go_wp2_with fail;refine (hC _).mono ?_;rintro e w3 ⟨rfl,hb3⟩;obtain⟨c0,c1,c2,c3,f0,f1,f2,f3,hz⟩:=hr w3 hb3;clear hr hW;go_wp2_with fail;exact bodyPost_ret (v:=.agg #[iv 3,iv 0,.string ⟨l.toArray⟩,sZ]) (by simp[results,Tryz.results90,go_sem,hz,c0,c1,c2,c3]) rfl ⟨rfl,Aj (hb0.trans (hb3.mono (by omega))) (Nat.le_refl _) _ _ _ _⟩
theorem Lj(a b:Int)(w:World):Calls Tryz.prog 115 #[iv a,iv b] w fun e w'=>e=.returned (iv (Lib.compareInt a b))∧w'=w:=by
 have h0:(a != a)=false:=by simp
 have h1:(b != b)=false:=by simp
 unfold Lib.compareInt;by_cases h2:a<b
 ·rw[if_pos h2];go_enter Tryz.func115,Tryz.ntmps115;go_wp2;go_ret;exact⟨rfl,rfl⟩
 ·rw[if_neg h2];by_cases h3:a > b
  ·rw[if_pos h3];have h3':b<a:=h3;go_enter Tryz.func115,Tryz.ntmps115;go_wp2;go_ret;exact⟨rfl,rfl⟩
  ·rw[if_neg h3];have h3':¬b<a:=h3;go_enter Tryz.func115,Tryz.ntmps115;go_wp2;go_ret;exact⟨rfl,rfl⟩
theorem R1(a b:ByteArray)(w:World):Calls Tryz.prog 116 #[.string a,.string b] w fun e w'=>e=.returned (iv (Lib.compareBytes a.data.toList b.data.toList))∧w'=w:=by
 go_enter Tryz.func116,Tryz.ntmps116;go_wp2;rw[run_callFunc_extern Tryz.func158 (by kernel_rfl) (by kernel_rfl) (by kernel_rfl) (e:=Extern.BytealgCompare.compare) (by kernel_rfl),Lib.run_compareString];simp only[Result.andThen];rw[Oper.upon_value];go_wp2;go_ret;exact⟨rfl,rfl⟩
theorem P0(a b:List UInt8)(w:World):Calls Tryz.prog 116 #[.string ⟨a.toArray⟩,.string ⟨b.toArray⟩] w fun e w'=>e=.returned (iv (Lib.compareBytes a b))∧w'=w:=by
 have:=R1 ⟨a.toArray⟩ ⟨b.toArray⟩ w;simpa only[List.toList_toArray] using this
theorem D5(n:Nat):((n:Int) == 0)=(n == 0):=by rw[Bool.eq_iff_iff];simp
theorem Fm{B:Nat->Prop}{v:V}{sl:Value}{w:World}(hv:IsW B w v sl) :
  Calls Tryz.prog 165 #[.agg #[iv v.k,iv v.n,bz v.t,sl]] w fun r w'=>r=.returned (.bool (bareB v))∧Below w.heap.size w w':=by
 obtain⟨ao,cap,rfl,hc1,hc2⟩:=hv.vs.slice;obtain⟨w0,hW,hb0,hsz,d0,d1,d2,d3⟩:=Aw w v (.slice ao v.l.length cap);clear hv;by_cases k1:v.k=1
 ·have q1:(v.k == 1)=true:=by simp[k1]
  have q2:(v.k == 2)=false:=by simp[k1]
  have q3:(v.k == 3)=false:=by simp[k1]
  have q4:(v.k == 4)=false:=by simp[k1]
  have q5:(v.k == 5)=false:=by simp[k1]
  clear k1;go_enter Tryz.func165,Tryz.ntmps165;go_wp2_with fail
  all_goals
   go_ret;exact⟨ret_bool (by simp_all [bareB,D5]),hb0⟩
 by_cases k2:v.k=2
 ·have q1:(v.k == 1)=false:=by simp[k2]
  have q2:(v.k == 2)=true:=by simp[k2]
  have q3:(v.k == 3)=false:=by simp[k2]
  have q4:(v.k == 4)=false:=by simp[k2]
  have q5:(v.k == 5)=false:=by simp[k2]
  clear k2 k1;go_enter Tryz.func165,Tryz.ntmps165;go_wp2_with fail
  all_goals
   go_ret;exact⟨ret_bool (by simp_all [bareB,D5]),hb0⟩
 by_cases k3:v.k=3
 ·have q1:(v.k == 1)=false:=by simp[k3]
  have q2:(v.k == 2)=false:=by simp[k3]
  have q3:(v.k == 3)=true:=by simp[k3]
  have q4:(v.k == 4)=false:=by simp[k3]
  have q5:(v.k == 5)=false:=by simp[k3]
  clear k3 k1 k2;go_enter Tryz.func165,Tryz.ntmps165;go_wp2_with fail
  all_goals
   go_ret;exact⟨ret_bool (by simp_all [bareB,D5]),hb0⟩
 by_cases k4:v.k=4
 ·have q1:(v.k == 1)=false:=by simp[k4]
  have q2:(v.k == 2)=false:=by simp[k4]
  have q3:(v.k == 3)=false:=by simp[k4]
  have q4:(v.k == 4)=true:=by simp[k4]
  have q5:(v.k == 5)=false:=by simp[k4]
  clear k4 k1 k2 k3;go_enter Tryz.func165,Tryz.ntmps165;go_wp2_with fail
  all_goals
   go_ret;exact⟨ret_bool (by simp_all [bareB,D5]),hb0⟩
 by_cases k5:v.k=5
 ·have q1:(v.k == 1)=false:=by simp[k5]
  have q2:(v.k == 2)=false:=by simp[k5]
  have q3:(v.k == 3)=false:=by simp[k5]
  have q4:(v.k == 4)=false:=by simp[k5]
  have q5:(v.k == 5)=true:=by simp[k5]
  clear k5 k1 k2 k3 k4;go_enter Tryz.func165,Tryz.ntmps165;go_wp2_with fail
  all_goals
   go_ret;exact⟨ret_bool (by simp_all [bareB,D5]),hb0⟩
 have q1:(v.k == 1)=false:=by simp[k1]
 have q2:(v.k == 2)=false:=by simp[k2]
 have q3:(v.k == 3)=false:=by simp[k3]
 have q4:(v.k == 4)=false:=by simp[k4]
 have q5:(v.k == 5)=false:=by simp[k5]
 clear k1 k2 k3 k4 k5;go_enter Tryz.func165,Tryz.ntmps165;go_wp2_with fail
 all_goals
  go_ret;exact⟨ret_bool (by simp_all [bareB,D5]),hb0⟩
end
end Go.Proofs.YtnijcolomoobnaaGreatDoor
