/-
  Proved: for any number of streams and any steps the law ferrykeep.Arrives answers true (all that was written comes, and what was ended ends, when all is read and handed over, again and again; no stream is reset here, and none is refused), and all arguments read afterwards as before. No condition on the arguments beyond the row's own.
-/
import Derived.Test.YtoijpogadkogcaaGreatRr
import Derived.ProofKit
import Derived.OpenShut
import Derived.ShutString
import Derived.ChangeOld
import Derived.Below
import Derived.Carry
import Derived.Deep.Slices
import Derived.Test.YtoijpogadkogcaaGreatRv
namespace Go.Proofs.YtoijpogadkogcaaGreat
open Go.ChangeShapes Go.WideShapes Go.ChangeAt Go.RowKit Go.Deep
set_option maxRecDepth 100000
section
variable {H:Type} {enc:TypeId×Value->H} {w:World} {base:Nat} {held:Bool}
theorem zzbgc{a:Addr}{cs:List Value}(h:w.cells? base a 4=some cs):∃ x0 x1 x2 x3,cs=[x0,x1,x2,x3]/\w.cell? a=some x0/\w.cell? (a.add 1)=some x1/\w.cell? (a.add 2)=some x2/\w.cell? (a.add 3)=some x3:=by
 obtain⟨_,h1,h2⟩:=World.cells?_some h
 match cs,h1 with
 | [x0,x1,x2,x3],_ =>
  exact⟨x0,x1,x2,x3,rfl,by simpa[Addr.add] using h2 0 (by decide),h2 1 (by decide),h2 2 (by decide),h2 3 (by decide)⟩
theorem zqn{x:Int}(h:(Lit.int .i64 x).wf=true):In64 x:=bounds_i64 h
theorem zzbjb{fuel:Nat}{cs:List Value}{x:DataW H×List MemPlace}(h:DataW.trod enc Tryz.prog w base (λ_=>true) held fuel 31 cs=some x) :
  ∃ (K A B C:Int),cs=[.int .i64 K,.int .i64 A,.int .i64 B,.int .i64 C]/\In64 K/\In64 A/\In64 B/\In64 C:=by
 obtain⟨ys,n,_,rfl,hl,hlen,hf⟩:=DataW.trod_struct Tryz.underlying31 h;have hc:Tryz.prog.cellsOf 31=4:=by kernel_rfl
 have c3:Tryz.prog.cellsOf 3=1:=by kernel_rfl
 rw[hc] at hl
 match cs,hl,ys,hlen with
 | [x0,x1,x2,x3],_,[y0,y1,y2,y3],_ =>
  have f0:DataW.trod enc Tryz.prog w base (λ_=>true) held n 3 (([x0,x1,x2,x3].drop 0).take (Tryz.prog.cellsOf 3))=some y0:=hf 0 _ rfl;rw[c3] at f0;have f1:DataW.trod enc Tryz.prog w base (λ_=>true) held n 3 (([x0,x1,x2,x3].drop 1).take (Tryz.prog.cellsOf 3))=some y1:=hf 1 _ rfl;rw[c3] at f1;have f2:DataW.trod enc Tryz.prog w base (λ_=>true) held n 3 (([x0,x1,x2,x3].drop 2).take (Tryz.prog.cellsOf 3))=some y2:=hf 2 _ rfl;rw[c3] at f2;have f3:DataW.trod enc Tryz.prog w base (λ_=>true) held n 3 (([x0,x1,x2,x3].drop 3).take (Tryz.prog.cellsOf 3))=some y3:=hf 3 _ rfl;rw[c3] at f3;obtain⟨K,e0,_,q0⟩:=DataW.trod_int Tryz.underlying3 f0;obtain⟨A,e1,_,q1⟩:=DataW.trod_int Tryz.underlying3 f1;obtain⟨B,e2,_,q2⟩:=DataW.trod_int Tryz.underlying3 f2;obtain⟨C,e3,_,q3⟩:=DataW.trod_int Tryz.underlying3 f3;have g0:[x0]=[.int .i64 K]:=e0;have g1:[x1]=[.int .i64 A]:=e1;have g2:[x2]=[.int .i64 B]:=e2;have g3:[x3]=[.int .i64 C]:=e3;simp only[List.cons.injEq,and_true] at g0 g1 g2 g3;subst g0;subst g1;subst g2;subst g3;exact⟨K,A,B,C,rfl,zqn q0,zqn q1,zqn q2,zqn q3⟩
theorem zzbgd{fuel:Nat}{cs:List Value}{x:DataW H×List MemPlace}(h:DataW.trod enc Tryz.prog w base (λ_=>true) held fuel 26 cs=some x) :
  ∃ v,cs=[v]/\zvy w v:=by
 rcases open_slice Tryz.underlying26 h with ⟨rfl,rfl⟩|⟨a,len,cap,k,n,D,Pl,rfl,_,h1,h2,hk,rfl,hcell⟩
 ·exact⟨_,rfl,none,0,0,rfl,by simp,by simp[maxLen],.inl rfl⟩
 ·simp only[if_true] at hk;subst hk;have hc:Tryz.prog.cellsOf 31=4:=by kernel_rfl
  refine⟨_,rfl,some a,len,k,rfl,h1,h2,?_⟩;have hone:∀ i,i<len -> ∃ (x0 x1 x2 x3:Int),In64 x0/\In64 x1/\In64 x2/\In64 x3 /\
    w.cell? (a.add (i*4))=some (.int .i64 x0)/\w.cell? ((a.add (i*4)).add 1)=some (.int .i64 x1)/\w.cell? ((a.add (i*4)).add 2)=some (.int .i64 x2)/\w.cell? ((a.add (i*4)).add 3)=some (.int .i64 x3):=by
   intro i hi;obtain⟨cs',hcs,ht⟩:=hcell i (by omega);rw[hc] at hcs;obtain⟨K,A,B,C,rfl,b0,b1,b2,b3⟩:=zzbjb ht;obtain⟨x0,x1,x2,x3,e,q0,q1,q2,q3⟩:=zzbgc hcs;simp only[List.cons.injEq,and_true] at e;obtain⟨rfl,rfl,rfl,rfl⟩:=e;exact⟨K,A,B,C,b0,b1,b2,b3,q0,q1,q2,q3⟩
  by_cases h0:len=0
  ·exact .inl h0
  ·right;obtain⟨b,o,sp⟩:=a;obtain⟨_,_,_,_,_,_,_,_,hz,_⟩:=hone 0 (by omega);have hsp:sp=none:=by simpa[Addr.add] using World.cell?_spot hz
   subst hsp;refine⟨b,o,rfl,λi hi => ?_⟩
   have:=hone i hi
   simp only[Addr.add_lit] at this;exact this
end
end Go.Proofs.YtoijpogadkogcaaGreat
namespace Go.Proofs.YtoijpogadkogcaaGreat.arrives
open Go.ChangeShapes Go.WideShapes Go.ChangeAt Go.RowKit
set_option linter.unusedVariables false
theorem own:ownKnob Tryz.prog.godebug=none:=by kernel_rfl
theorem laidOut:laidOutB Tryz.prog=true:=by kernel_rfl
set_option maxRecDepth 100000 in
theorem lifted(os:Os)(started:os.Started)(H:Type)(enc:TypeId×Value->H) :
  ReturnsInHanded {} Tryz.checked os 6 .any (Rows.arrivesSpec.pre6 enc Tryz.prog Tryz.f6 Rows.arrivesRow.domain false) (Rows.arrivesSpec.post enc Tryz.prog Tryz.f6 false true false false):=by
 refine returnsInHanded_of_change (C:=Tryz.checked) own started (by kernel_rfl) Tryz.func6
  (ChangeSpec.witness6 (enc:=enc) (C:=Tryz.checked) false ⟨#[],#[.int .i64 0,.slice none 0 0],[]⟩ 8 (by kernel_rfl) (by kernel_rfl) (by kernel_rfl) (by kernel_rfl)) ?_
 intro W base args ds gs before hval0 hW hcnd _;have hval:∀ (j:Nat) t v,Tryz.f6.params[j]? = some t->args[j]? = some v->Value.okWide Tryz.prog W .any base t v:=hval0;have hW':=hW;obtain⟨p,q,hA0,hV,rfl,hfz,hnd⟩:=hW;have hA:DataW.TrodAll enc Tryz.prog W 0 (λ_=>true) true Tryz.f6.params.toList args.toList ds p:=hA0;rw[Tryz.params6] at hA hval;obtain⟨v0,vs0,d0,ds0,p0,q0,hargs,rfl,rfl,h0,r0⟩:=trodAll_cons hA;obtain⟨v1,vs1,d1,ds1,p1,q1,rfl,rfl,rfl,h1,r1⟩:=trodAll_cons r0;obtain⟨rfl,rfl,rfl⟩:=trodAll_nil r1;obtain rfl:args = #[v0,v1]:=by cases args;simp_all
 obtain⟨rfl,rfl⟩:=trodVars_none hV;obtain⟨a0,rfl,rfl,rfl,w0⟩:=open_int Tryz.underlying3 (hval 0 3 v0 rfl rfl) h0;obtain⟨a1,len1,cap1,rfl⟩:=okWide_slice Tryz.underlying26 (hval 1 26 v1 rfl rfl);have k1:=h1;have lt1:∀ x∈p1,x.block<W.heap.size:=by obtain⟨m,hm⟩:=k1;exact DataW.trod_lt m _ _ _ hm
 have hs:zvy W (.slice a1 len1 cap1):=by obtain⟨fuel,hf⟩:=h1;obtain⟨v,hcs,hs⟩:=zzbgd hf;simp[Value.cells] at hcs;subst hcs;exact hs
 have b0:=bounds_i64 w0;clear hA0 hval0;refine(zzbcw a0 _ W b0.1 b0.2 hs).mono λe W' ⟨he,bel⟩ => ?_;subst he;exact⟨_,rfl,_,_,_,[],_,[],hW',trodAll_mk1 (shut_bool Tryz.underlying4 _),(trodAll_cons_mk (shut_int Tryz.underlying3 w0) (trodAll_cons_mk (Below.trod laidOut (by kernel_rfl) (of_decide_eq_true (by kernel_rfl)) k1 bel lt1) trodAll_mk0)),rfl,bel.frame _,λh=>by cases h⟩
theorem over:Rows.arrivesRow.holds Tryz.pinned (OpenSpec.ofChange Rows.arrivesSpec) :=
 OpenClaim.holds_of_wide 6 Tryz.f6 rfl rfl rfl rfl rfl rfl rfl ⟨rfl,rfl,rfl,rfl,rfl⟩ rfl rfl rfl rfl rfl (by kernel_rfl) Tryz.func6 (by kernel_rfl)
  (of_decide_eq_true (by kernel_rfl)) (by unfold Func.isWrapper;first | (rw[if_pos (by decide +kernel)];kernel_rfl) | (rw[if_neg (by decide +kernel)];exact⟨rfl,rfl⟩))
  (λos started H enc _=>lifted os started H enc)
end Go.Proofs.YtoijpogadkogcaaGreat.arrives
namespace Go.Proofs.YtoijpogadkogcaaGreat
theorem arrives_holds:Rows.ArrivesSaid:=arrives.over
#print axioms arrives_holds
end Go.Proofs.YtoijpogadkogcaaGreat
