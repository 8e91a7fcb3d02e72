import Derived.Test.YtoijpogadkogcaaGreatQq
namespace Go.Proofs.YtoijpogadkogcaaGreat
open Go.RowKit
set_option maxRecDepth 100000
theorem zhr(gp op k n cap:Nat):sliced (some ⟨gp,op,none⟩) k n cap 1 = .slice (some ⟨gp,if cap=k then op else op+k,none⟩) (n-k) (cap-k):=by
 unfold sliced;by_cases e:cap=k
 ·simp[e]
 ·simp[e,zea]
theorem zwg{gp op n cap:Nat}{l:Bytes}{w:World}(h:zae w (.slice (some ⟨gp,op,none⟩) n cap) l)(k:Nat)(hk:k<=l.length) :
  (∀ W:World,(Instr.slice 34 (.slice (some ⟨gp,op,none⟩) n cap) (some (.int .i64 (k:Int))) none none).run Tryz.prog W = .ok (.slice (some ⟨gp,if cap=k then op else op+k,none⟩) (n-k) (cap-k)) W)/\zae w (.slice (some ⟨gp,if cap=k then op else op+k,none⟩) (n-k) (cap-k)) (l.drop k):=by
 have hn:n=l.length:=by obtain⟨a',cap',he,_⟩:=h;simp only[Value.slice.injEq] at he;exact he.2.1
 refine⟨λW => ?_,?_⟩
 ·rw[run_slice_l W 34 _ n cap (by rw[zam];exact Tryz.underlying34) .i64 (k:Int) (by omega) (by omega),zam,zbl,<-zhr];simp[Result.andThen]
 ·rw[<-zhr];exact zae.drop h k hk
theorem zzf{gp op n cap:Nat}{l:Bytes}{w:World}(h:zae w (.slice (some ⟨gp,op,none⟩) n cap) l)(k m:Nat)(hk:k<=m)(hm:m<=l.length) :
  (∀ W:World,(Instr.slice 34 (.slice (some ⟨gp,op,none⟩) n cap) (some (.int .i64 (k:Int))) (some (.int .i64 (m:Int))) none).run Tryz.prog W = .ok (.slice (some ⟨gp,if cap=k then op else op+k,none⟩) (m-k) (cap-k)) W)/\zae w (.slice (some ⟨gp,if cap=k then op else op+k,none⟩) (m-k) (cap-k)) ((l.take m).drop k):=by
 have hn:n=l.length/\l.length<=cap:=by obtain⟨a',cap',he,h1,_⟩:=h;simp only[Value.slice.injEq] at he;exact⟨he.2.1,by omega⟩
 refine⟨λW => ?_,?_⟩
 ·rw[run_slice_lh W 34 _ n cap (by rw[zam];exact Tryz.underlying34) .i64 .i64 (k:Int) (m:Int) (by omega) (by omega) (by omega),zam,zbl,<-zhr];simp[Result.andThen]
 ·have h1:=zae.take h m hm;have e:sliced (some ⟨gp,op,none⟩) 0 m cap 1 = .slice (some ⟨gp,op,none⟩) m cap:=by rw[zhr];simp
  rw[e] at h1;rw[<-zhr];exact zae.drop h1 k (by simp;omega)
theorem zey{fn:Func}{p u x:Tmp}{ty:TypeId}(h:fn.results = #[.cell p ty,.tmp u,.tmp x])(tmps:Array Value)(P:Program)(w:World) :
  (results fn tmps).run P w =
   ((asAddr (tmps.getD p undef)).run P w).andThen λa w₁=>((loadVar ty a).run P w₁).andThen λv w₂ => .ok (.tuple #[v,tmps.getD u undef,tmps.getD x undef]) w₂:=by
 simp only[results,h];simp[Sem.run_bind,Result.andThen]
def zkq:Value:=.agg #[.int .i64 0,.int .i64 0,.int .i64 0,.slice none 0 0]
set_option maxHeartbeats 1600000 in
theorem zzbbp(w:World)(vb:Value)(b:Bytes)(hb:zae w vb b)(h6:b.length<6) :
  Calls Tryz.prog 51 #[vb] w λe w'=>e = .returned (.tuple #[zkq,.slice none 0 0,.int .i64 0])/\Ext w w':=by
 obtain⟨a,k,rfl,hc1,hc2,h3⟩:=hb;have hlt:decide ((b.length:Int)<6)=true:=by simp;omega
 clear h3 hc1 hc2 h6;unfold zkq;generalize b.length=n at *
 go_enter Tryz.func51,Tryz.ntmps51
 go_wp2
 refine bodyPost_ret (v:=.tuple #[.agg #[.int .i64 0,.int .i64 0,.int .i64 0,.slice none 0 0],.slice none 0 0,.int .i64 0]) ?_ rfl ⟨rfl,(Ext.refl w).alloc _⟩;rw[zey rfl]
 go_simp
def frQ(q:Nat)(x y z u:Value):Unit->Res:=λ_ => .obj q (.cells #[x,y,z,u] 111)
theorem zkr(f:Unit->Res)(r:Res):upd f () r=(λ_=>r):=by funext n;cases n;unfold upd;exact if_pos rfl
theorem zzbdm(w:World)(x y z u:Value):Sep w (w.alloc (.cells #[x,y,z,u] 111)) (frQ w.heap.size x y z u):=by have h0:Sep w w (λ_:Unit=>Res.none):=⟨Ext.refl w,λ_=>trivial,λ_ _ _ h=>h.elim,λ_ _ h=>h.elim⟩;have h:=h0.addObj () (.cells #[x,y,z,u] 111);rw[zkr] at h;exact h
theorem zqe{q:Nat}{wb w:World}{x y z u:Value}(h:Sep wb w (frQ q x y z u))(x' y' z' u':Value) :
  Sep wb ((((w.setCell ⟨q,0,none⟩ x').setCell ⟨q,1,none⟩ y').setCell ⟨q,2,none⟩ z').setCell ⟨q,3,none⟩ u') (frQ q x' y' z' u'):=by
 have h1:=h.setObj (n:=()) rfl 0 x';rw[zkr] at h1;have h2:=h1.setObj (n:=()) rfl 1 y';rw[zkr] at h2;have h3:=h2.setObj (n:=()) rfl 2 z';rw[zkr] at h3;have h4:=h3.setObj (n:=()) rfl 3 u';rw[zkr] at h4;exact h4
set_option maxHeartbeats 1600000 in
theorem zwh(w:World)(vb:Value)(b:Bytes)(hb:zae w vb b)(h6:6<=b.length)(hn:64<Cs.num b 0\/b.length<6+Cs.num b 0) :
  Calls Tryz.prog 51 #[vb] w λe w'=>e = .returned (.tuple #[zkq,.slice none 0 0,.int .i64 (if 64<Cs.num b 0 then 2 else 0)])/\Ext w w':=by
 have S1:=zzbdm w (.int .i64 0) (.int .i64 0) (.int .i64 0) (.slice none 0 0);have k2:=zde _ vb b (hb.ext ((Ext.refl w).alloc (.cells #[.int .i64 0,.int .i64 0,.int .i64 0,.slice none 0 0] 111))) (by omega);have hnum:Cs.num b 0<=65535:=by have:=(b.getD 0 0).toNat_lt;have:=(b.getD (0+1) 0).toNat_lt;unfold Cs.num;omega
 obtain⟨a,k,rfl,hc1,hc2,h3⟩:=hb;have hlt:decide ((b.length:Int)<6)=false:=by simp;omega
 have hc3:(b.length:Int)<=9223372036854775807:=by unfold maxLen at hc2;omega
 obtain⟨W1,hW1⟩:∃ W1,w.alloc (.cells #[.int .i64 0,.int .i64 0,.int .i64 0,.slice none 0 0] 111)=W1:=⟨_,rfl⟩;rw[hW1] at S1 k2;have KS:Hid (∀ w2,Ext W1 w2->Sep w w2 (frQ w.heap.size (.int .i64 0) (.int .i64 0) (.int .i64 0) (.slice none 0 0))):=λw2 he=>S1.ext he;clear h3 hc1 hc2 h6 S1;unfold zkq;generalize b.length=n at *;generalize Cs.num b 0=m at *;by_cases h64:64<m
 ·have hg:decide ((70:Int)<6+(m:Int))=true:=by simp;omega
  rw[if_pos h64];clear hn h64
  go_enter Tryz.func51,Tryz.ntmps51
  go_wp2_with fail
  refine k2.mono ?_;rintro e w2 ⟨rfl,he⟩;have S2:=KS.out w2 he;have z0:=S2.cell (n:=()) rfl 0;have z1:=S2.cell (n:=()) rfl 1;have z2:=S2.cell (n:=()) rfl 2;have z3:=S2.cell (n:=()) rfl 3;have t0:=S2.thaw (n:=()) rfl 0;have t1:=S2.thaw (n:=()) rfl 1;have t2:=S2.thaw (n:=()) rfl 2;have t3:=S2.thaw (n:=()) rfl 3;have SF:=hide (zqe S2 (.int .i64 0) (.int .i64 0) (.int .i64 0) (.slice none 0 0));clear S2
  go_wp2
  have S3:=SF.out;obtain⟨W3,hW3⟩:∃ W3,(((w2.setCell ⟨w.heap.size,0,none⟩ (.int .i64 0)).setCell ⟨w.heap.size,1,none⟩ (.int .i64 0)).setCell ⟨w.heap.size,2,none⟩ (.int .i64 0)).setCell ⟨w.heap.size,3,none⟩ (.slice none 0 0)=W3:=⟨_,rfl⟩;rw[hW3] at S3 ⊢;have y0:=S3.cell (n:=()) rfl 0;have y1:=S3.cell (n:=()) rfl 1;have y2:=S3.cell (n:=()) rfl 2;have y3:=S3.cell (n:=()) rfl 3;refine bodyPost_ret (v:=.tuple #[.agg #[.int .i64 0,.int .i64 0,.int .i64 0,.slice none 0 0],.slice none 0 0,.int .i64 2]) ?_ rfl ⟨rfl,S3.base⟩;clear SF S3 hW3 z0 z1 z2 z3 t0 t1 t2 t3;rw[zey rfl]
  go_simp
 ·have hg:decide ((70:Int)<6+(m:Int))=false:=by simp;omega
  have hg2:decide ((n:Int)<6+(m:Int))=true:=by simp;omega
  rw[if_neg h64];clear hn h64
  go_enter Tryz.func51,Tryz.ntmps51
  go_wp2_with fail
  refine k2.mono ?_;rintro e w2 ⟨rfl,he⟩;have S2:=KS.out w2 he;have z0:=S2.cell (n:=()) rfl 0;have z1:=S2.cell (n:=()) rfl 1;have z2:=S2.cell (n:=()) rfl 2;have z3:=S2.cell (n:=()) rfl 3;have t0:=S2.thaw (n:=()) rfl 0;have t1:=S2.thaw (n:=()) rfl 1;have t2:=S2.thaw (n:=()) rfl 2;have t3:=S2.thaw (n:=()) rfl 3;have SF:=hide (zqe S2 (.int .i64 0) (.int .i64 0) (.int .i64 0) (.slice none 0 0));clear S2
  go_wp2
  have S3:=SF.out;obtain⟨W3,hW3⟩:∃ W3,(((w2.setCell ⟨w.heap.size,0,none⟩ (.int .i64 0)).setCell ⟨w.heap.size,1,none⟩ (.int .i64 0)).setCell ⟨w.heap.size,2,none⟩ (.int .i64 0)).setCell ⟨w.heap.size,3,none⟩ (.slice none 0 0)=W3:=⟨_,rfl⟩;rw[hW3] at S3 ⊢;have y0:=S3.cell (n:=()) rfl 0;have y1:=S3.cell (n:=()) rfl 1;have y2:=S3.cell (n:=()) rfl 2;have y3:=S3.cell (n:=()) rfl 3;refine bodyPost_ret (v:=.tuple #[.agg #[.int .i64 0,.int .i64 0,.int .i64 0,.slice none 0 0],.slice none 0 0,.int .i64 0]) ?_ rfl ⟨rfl,S3.base⟩;clear SF S3 hW3 z0 z1 z2 z3 t0 t1 t2 t3;rw[zey rfl]
  go_simp
theorem zzbjm(b:Bytes)(k:Nat):Cs.num (b.drop k) 0=Cs.num b k:=by unfold Cs.num;simp[List.getD_eq_getElem?_getD,List.getElem?_drop]
set_option maxHeartbeats 6400000 in
theorem zzbbq(w:World)(gp op n cap:Nat)(b:Bytes)(hb:zae w (.slice (some ⟨gp,op,none⟩) n cap) b)(m:Nat)(hm:Cs.num b 0=m)(h64:m<=64)(hl:6+m<=b.length) :
  Calls Tryz.prog 51 #[.slice (some ⟨gp,op,none⟩) n cap] w λe w'=>e = .returned (.tuple #[.agg #[.int .i64 ((b.getD 2 0).toNat:Int),.int .i64 ((b.getD 3 0).toNat:Int),.int .i64 (Cs.num b 4:Int),.slice (some ⟨gp,if cap=6 then op else op+6,none⟩) m (cap-6)],.slice (some ⟨gp,if cap=6+m then op else op+(6+m),none⟩) (n-(6+m)) (cap-(6+m)),.int .i64 1])/\Ext w w':=by
 have S1:=zzbdm w (.int .i64 0) (.int .i64 0) (.int .i64 0) (.slice none 0 0);obtain⟨W1,hW1⟩:∃ W1,w.alloc (.cells #[.int .i64 0,.int .i64 0,.int .i64 0,.slice none 0 0] 111)=W1:=⟨_,rfl⟩;have e1:Ext w W1:=by rw[<-hW1];exact(Ext.refl w).alloc _
 rw[hW1] at S1;have k2:=zde W1 _ b (hb.ext e1) (by omega);rw[hm] at k2;have r4:=zwg hb 4 (by omega);have r6:=(zzf hb 6 (6+m) (by omega) hl).1;have rb:=(zwg hb (6+m) hl).1;have c4:((4:Nat):Int)=4:=rfl;have c6:((6:Nat):Int)=6:=rfl;have cm:((6+m:Nat):Int)=6+(m:Int):=by omega
 have s4:=r4.1;have i4:=r4.2;simp only[c4] at s4;simp only[c6,cm] at r6;simp only[cm] at rb;have em:6+m-6=m:=by omega
 rw[em] at r6;have K4:Hid (∀ W:World,Ext w W->Calls Tryz.prog 91 #[.slice (some ⟨gp,if cap=4 then op else op+4,none⟩) (n-4) (cap-4)] W λe w'=>e = .returned (.int .i64 (Cs.num b 4:Int))/\Ext W w'):=λW he=>by
  have:=zde W _ (b.drop 4) (i4.ext he) (by simp;omega)
  rw[zzbjm] at this;exact this
 obtain⟨a',k',he',hc1,hc2,h3⟩:=hb;simp only[Value.slice.injEq] at he';obtain⟨ha,hn,hk⟩:=he';subst hk;rcases h3 with h3 | ⟨gp',op',ha',hcell⟩
 ·rw[h3] at hl;simp at hl
 rw[<-ha] at ha';simp only[Option.some.injEq,Addr.mk.injEq,and_true] at ha';obtain⟨rfl,rfl⟩:=ha';have KL:Hid (∀ W:World,Ext w W->W.cell? ⟨gp,op+2,none⟩=some (.int .u8 ((b.getD 2 0).toNat:Int))/\W.cell? ⟨gp,op+3,none⟩=some (.int .u8 ((b.getD 3 0).toNat:Int))):=λW he=>⟨he.cell (hcell 2 (by omega)),he.cell (hcell 3 (by omega))⟩
 have hx2:(b.getD 2 0).toNat<256:=(b.getD 2 0).toNat_lt;have hx3:(b.getD 3 0).toNat<256:=(b.getD 3 0).toNat_lt;have hlt:decide ((n:Int)<6)=false:=by simp;omega
 have hg:decide ((70:Int)<6+(m:Int))=false:=by simp;omega
 have hg2:decide ((n:Int)<6+(m:Int))=false:=by simp;omega
 have hn2:(2:Int)<(n:Int):=by omega
 have hn3:(3:Int)<(n:Int):=by omega
 have hc3:(n:Int)<=9223372036854775807:=by unfold maxLen at hc2;omega
 have hn4:Cs.num b 4<=65535:=by have:=(b.getD 4 0).toNat_lt;have:=(b.getD (4+1) 0).toNat_lt;unfold Cs.num;omega
 have KS:Hid (∀ w2,Ext W1 w2->Sep w w2 (frQ w.heap.size (.int .i64 0) (.int .i64 0) (.int .i64 0) (.slice none 0 0))):=λw2 he=>S1.ext he;have KE:=hide e1;clear hcell ha i4 r4 S1 hl hc1 hc2 hm em c4 c6 cm e1 hn;generalize (b.getD 2 0).toNat=x2 at *;generalize (b.getD 3 0).toNat=x3 at *;generalize Cs.num b 4=x4 at *;generalize (if cap=4 then op else op+4)=o4 at *;generalize (if cap=6 then op else op+6)=o6 at *;generalize (if cap=6+m then op else op+(6+m))=ob at *;generalize n-4=n4 at *;generalize cap-4=q4 at *;generalize cap-6=q6 at *;generalize n-(6+m)=nb at *;generalize cap-(6+m)=qb at *;have hw2:IntKind.i64.wrap (x2:Int)=(x2:Int):=zhh _ (by omega) (by omega);have hw3:IntKind.i64.wrap (x3:Int)=(x3:Int):=zhh _ (by omega) (by omega);have HW2:=hide hw2;have HW3:=hide hw3
 go_enter Tryz.func51,Tryz.ntmps51
 go_wp2_with fail
 refine k2.mono ?_;rintro e w2 ⟨rfl,he⟩;obtain⟨y2,y3⟩:=KL.out w2 (KE.out.trans he);have k4:=K4.out w2.drew (KE.out.trans he).drew;have KZ:Hid (∀ w3,Ext w2.drew w3->(w3.cell? ⟨gp,op+2,none⟩=some (.int .u8 (x2:Int))/\w3.cell? ⟨gp,op+3,none⟩=some (.int .u8 (x3:Int)))/\Sep w w3 (frQ w.heap.size (.int .i64 0) (.int .i64 0) (.int .i64 0) (.slice none 0 0))):=λw3 h3=>⟨KL.out w3 ((KE.out.trans he).drew.trans h3),KS.out w3 ((he.drew).trans h3)⟩
 go_wp2_with fail
 first | go_region_with (go_at_call 91;refine k4.mono ?_;rintro e w3 ⟨rfl,he3⟩;obtain⟨⟨u2,u3⟩,S3⟩:=KZ.out w3 he3;have z0:=S3.cell (n:=()) rfl 0;have z1:=S3.cell (n:=()) rfl 1;have z2:=S3.cell (n:=()) rfl 2;have z3:=S3.cell (n:=()) rfl 3;have t0:=S3.thaw (n:=()) rfl 0;have t1:=S3.thaw (n:=()) rfl 1;have t2:=S3.thaw (n:=()) rfl 2;have t3:=S3.thaw (n:=()) rfl 3;have SF:=hide S3;clear S3) | fail
 all_goals
  try rw[HW2.out,HW3.out]
  have S4:=zqe SF.out (.int .i64 (x2:Int)) (.int .i64 (x3:Int)) (.int .i64 (x4:Int)) (.slice (some ⟨gp,o6,none⟩) m q6);obtain⟨W4,hW4⟩:∃ W4,(((w3.setCell ⟨w.heap.size,0,none⟩ (.int .i64 (x2:Int))).setCell ⟨w.heap.size,1,none⟩ (.int .i64 (x3:Int))).setCell ⟨w.heap.size,2,none⟩ (.int .i64 (x4:Int))).setCell ⟨w.heap.size,3,none⟩ (.slice (some ⟨gp,o6,none⟩) m q6)=W4:=⟨_,rfl⟩;rw[hW4] at S4 ⊢;have v0:=S4.cell (n:=()) rfl 0;have v1:=S4.cell (n:=()) rfl 1;have v2:=S4.cell (n:=()) rfl 2;have v3:=S4.cell (n:=()) rfl 3;have p0:=S4.thaw (n:=()) rfl 0;have p1:=S4.thaw (n:=()) rfl 1;have p2:=S4.thaw (n:=()) rfl 2;have p3:=S4.thaw (n:=()) rfl 3;have S5:=zqe S4 (.int .i64 (x2:Int)) (.int .i64 (x3:Int)) (.int .i64 (x4:Int)) (.slice (some ⟨gp,o6,none⟩) m q6);have SG:=hide S5;clear hW4 z0 z1 z2 z3 t0 t1 t2 t3 SF S4 S5 u2 u3 y2 y3 k4 KZ s4 r6 K4 KL KS
  go_wp2_with fail
  first | go_region | fail
  all_goals
   go_wp2
   have S6:=SG.out.ext (Ext.refl _).drew;obtain⟨W6,hW6⟩:∃ W6,World.drew ((((W4.setCell ⟨w.heap.size,0,none⟩ (.int .i64 (x2:Int))).setCell ⟨w.heap.size,1,none⟩ (.int .i64 (x3:Int))).setCell ⟨w.heap.size,2,none⟩ (.int .i64 (x4:Int))).setCell ⟨w.heap.size,3,none⟩ (.slice (some ⟨gp,o6,none⟩) m q6))=W6:=⟨_,rfl⟩;rw[hW6] at S6 ⊢;have q0:=S6.cell (n:=()) rfl 0;have q1:=S6.cell (n:=()) rfl 1;have q2:=S6.cell (n:=()) rfl 2;have q3:=S6.cell (n:=()) rfl 3;refine bodyPost_ret (v:=.tuple #[.agg #[.int .i64 (x2:Int),.int .i64 (x3:Int),.int .i64 (x4:Int),.slice (some ⟨gp,o6,none⟩) m q6],.slice (some ⟨gp,ob,none⟩) nb qb,.int .i64 1]) ?_ rfl ⟨rfl,S6.base⟩;clear SG S6 hW6 v0 v1 v2 v3 p0 p1 p2 p3;rw[zey rfl]
   go_simp
def Kin(x:Bytes)(d:Ds):Prop:=d.failed=true\/d.inn=x
theorem zks(d:Ds)(m:Bool)(k:Int):(d.bump m k).inn=d.inn:=by unfold Ds.bump;split<;>rfl
theorem zng(d:Ds)(s:DS)(t:Nat):(d.move s t).inn=d.inn:=zks _ _ _
theorem zpl(d:Ds)(s:DS):(d.endThere s).inn=d.inn:=by
 unfold Ds.endThere;split
 ·exact zng _ _ _
 ·rfl
theorem zwi(d:Ds)(n:Nat):(d.enter n).inn=d.inn:=by unfold Ds.enter;split<;>rfl
theorem zpm(d:Ds)(s:DS):(d.place s).inn=d.inn:=by
 unfold Ds.place;split
 ·exact zwi _ _
 ·rfl
theorem zzbjn(d:Ds)(s:DS):(d.drop s).inn=d.inn:=by
 unfold Ds.drop;dsimp only;split
 ·exact(zpm _ _).trans rfl
 ·exact(zpm _ _).trans rfl
theorem zxw(d:Ds)(s:DS)(c:Nat):(d.breakHere s c).inn=d.inn:=zng _ _ _
theorem zrf(d:Ds)(s:DS):(d.takeEnd s).inn=d.inn:=zpl _ _
theorem zzg(d:Ds)(s:DS)(fin:Bool)(n:Nat):(d.passOver s fin n).inn=d.inn:=by
 unfold Ds.passOver;dsimp only;split
 ·rw[zpl];split<;>rfl
 ·split<;>rfl
theorem zzbep(d:Ds)(id:Nat):(d.refuse id).inn=d.inn:=by unfold Ds.refuse;dsimp only;rw[zpm,zxw];exact zks _ _ _
theorem zzbeq(d:Ds)(id:Nat)(fin:Bool)(h:zal):(d.accept id fin h).inn=d.inn:=by
 unfold Ds.accept;dsimp only;split
 ·rw[zrf];exact zks _ _ _
 ·exact zks _ _ _
theorem Kin.fail(x:Bytes)(d:Ds)(c:Nat):Kin x (d.fail c):=.inl rfl
theorem Kin.of{x:Bytes}{d:Ds}(h:d.inn=x):Kin x d:=.inr h
theorem Kin.ite{x:Bytes}{p:Prop}[Decidable p]{a b:Ds}(ha:Kin x a)(hb:Kin x b):Kin x (if p then a else b):=by split<;>assumption
theorem zzber(d:Ds)(fin:Bool)(id:Nat)(body:Bytes):Kin d.inn (d.doData fin id body):=by unfold Ds.doData;dsimp only;refine Kin.ite (Kin.fail _ _ _) (Kin.ite (Kin.fail _ _ _) (Kin.ite (Kin.of (zzg _ _ _ _)) (Kin.ite (Kin.fail _ _ _) (Kin.ite (Kin.fail _ _ _) (Kin.ite (Kin.of (zrf _ _)) (Kin.of rfl))))))
theorem zzbbr(d:Ds)(id:Nat)(body:Bytes):Kin d.inn (d.doReset id body):=by unfold Ds.doReset;dsimp only;exact Kin.ite (Kin.fail _ _ _) (Kin.ite (Kin.fail _ _ _) (Kin.ite (Kin.of (zng _ _ _)) (Kin.ite (Kin.of rfl) (Kin.of ((zzbjn _ _).trans (zng _ _ _))))))
theorem zlk(d:Ds)(id:Nat)(fin whole:Bool)(sofar body:Bytes):Kin d.inn (d.takeHeaders id fin whole sofar body):=by
 unfold Ds.takeHeaders;dsimp only;refine Kin.ite (Kin.fail _ _ _) (Kin.ite (Kin.of rfl) ?_);split
 ·exact Kin.fail _ _ _
 ·exact Kin.ite (Kin.of (zzbep _ _)) (Kin.of (zzbeq _ _ _ _))
theorem zzbes(d:Ds)(fin whole:Bool)(id:Nat)(body:Bytes):Kin d.inn (d.doOpen fin whole id body):=by unfold Ds.doOpen;exact Kin.ite (zlk _ _ _ _ _ _) (Kin.fail _ _ _)
theorem zzbet(d:Ds)(whole:Bool)(body:Bytes):Kin d.inn (d.doMore whole body):=by
 unfold Ds.doMore;split
 ·exact Kin.fail _ _ _
 ·exact zlk _ _ _ _ _ _
theorem zet(d:Ds)(kind flags id:Nat)(body:Bytes):Kin d.inn (d.done kind flags id body):=by
 unfold Ds.done;dsimp only;refine Kin.ite (Kin.fail _ _ _) (Kin.ite (zzber _ _ _ _) (Kin.ite (zzbes _ _ _ _ _) (Kin.ite (zzbet _ _ _) (Kin.ite (zzbbr _ _ _) (Kin.ite ?_ (Kin.ite ?_ (Kin.ite ?_ (Kin.ite ?_ (Kin.of rfl)))))))))
 ·unfold Ds.doSettings;exact Kin.ite (Kin.fail _ _ _) (Kin.ite (Kin.ite (Kin.fail _ _ _) (Kin.of rfl)) (Kin.ite (Kin.fail _ _ _) (Kin.ite (Kin.fail _ _ _) (Kin.of rfl))))
 ·unfold Ds.doPing;exact Kin.ite (Kin.fail _ _ _) (Kin.ite (Kin.fail _ _ _) (Kin.ite (Kin.of rfl) (Kin.of rfl)))
 ·unfold Ds.doAway;exact Kin.ite (Kin.fail _ _ _) (Kin.ite (Kin.fail _ _ _) (Kin.of rfl))
 ·unfold Ds.doWindow;dsimp only;exact Kin.ite (Kin.fail _ _ _) (Kin.ite (Kin.fail _ _ _) (Kin.ite (Kin.fail _ _ _) (Kin.ite (Kin.ite (Kin.fail _ _ _) (Kin.of rfl)) (Kin.ite (Kin.ite (Kin.fail _ _ _) (Kin.of rfl)) (Kin.of rfl)))))
def zcg(d:Ds):Ds:={ d with inn:=d.inn.drop (6+Cs.num d.inn 0) }
def zei(d:Ds):Bytes:=(d.inn.take (6+Cs.num d.inn 0)).drop 6
def zbd(d:Ds):Ds:=(zcg d).done (d.inn.getD 2 0).toNat (d.inn.getD 3 0).toNat (Cs.num d.inn 4) (zei d)
theorem zjw(l:Bytes)(n k:Nat)(h:k<n):(l.take n).getD k 0=l.getD k 0:=by simp[List.getD_eq_getElem?_getD,h]
theorem zbb(f:Nat)(d:Ds)(h:d.failed=true\/d.inn.length<6):Ds.looks f d=d:=by
 cases f with
 | zero=>rfl
 | succ f=>rw[Ds.looks,if_pos h]
theorem zej(f:Nat)(d:Ds)(hf:d.failed=false)(h6:6<=d.inn.length)(h64:64<Cs.num d.inn 0):Ds.looks (f+1) d=d.fail 3:=by rw[Ds.looks,if_neg (by rw[hf];simp;omega)];dsimp only;rw[if_pos h64]
theorem zeu(f:Nat)(d:Ds)(hf:d.failed=false)(h6:6<=d.inn.length)(h64:Cs.num d.inn 0<=64)(hw:d.inn.length<6+Cs.num d.inn 0):Ds.looks (f+1) d=d:=by rw[Ds.looks,if_neg (by rw[hf];simp;omega)];dsimp only;rw[if_neg (by omega),if_pos hw]
theorem zdo(f:Nat)(d:Ds)(hf:d.failed=false)(h6:6<=d.inn.length)(h64:Cs.num d.inn 0<=64)(hw:6+Cs.num d.inn 0<=d.inn.length):Ds.looks (f+1) d=Ds.looks f (zbd d):=by
 rw[Ds.looks,if_neg (by rw[hf];simp;omega)];dsimp only;rw[if_neg (by omega),if_neg (by omega)];have e4:Cs.num (d.inn.take (6+Cs.num d.inn 0)) 4=Cs.num d.inn 4:=by unfold Cs.num;rw[zjw _ _ 4 (by omega),zjw _ _ (4+1) (by omega)]
 rw[zjw _ _ _ (by omega),zjw _ _ _ (by omega),e4];rfl
structure GoodD (Good:Ds->Prop):Prop where
 fits:∀ d,Good d->d.Fits 6
 st0:∀ d,Good d -> ∀ n s,d.str n=some s->s.state≠0
 new:∀ d,Good d -> ∀ id:Nat,id<=65535->d.side id=some false->d.tLast<id->d.str id=none
 cm:∀ d,Good d -> ∀ i e b,d.coming=some (i,e,b)->d.str i=none/\b.length<=1000/\i<=65535
 next:∀ d,Good d->d.failed=false->6<=d.inn.length->Cs.num d.inn 0<=64->6+Cs.num d.inn 0<=d.inn.length->(zbd d).failed=false->Good (zbd d)
section
variable {N:Type} {own:N->Res} {nm:DN->N} {g:Nat} {d:Ds} {v:DV} {wb w:World}
theorem Sep.dpin(h:Sep wb w own){n:N}{T sz k gp o cap:Nat}{xs:List Value}(hn:own n = .row T sz (.slice (some ⟨gp,o,none⟩) k cap) k xs):∃ cur,Sep wb w (upd own n (.obj gp (.cells cur T (0,0))))/\w.heap[gp]? = some (.cells cur T (0,0)):=by
 have ho:OwnAt w T sz (.slice (some ⟨gp,o,none⟩) k cap) k xs:=h.get hn;rcases ho.2 with ⟨e,_⟩ | ⟨g',o',cap',cur,e,hg,_⟩
 ·simp at e
 ·simp only[Value.slice.injEq,Option.some.injEq,Addr.mk.injEq] at e;obtain⟨⟨rfl,rfl,_⟩,_,rfl⟩:=e;have hl:=h.low n gp (by rw[hn];rfl);exact⟨cur,h.put n _ h.base (Nat.le_refl _) (λ_ _ _ _=>rfl) hg (λb hb=>⟨.inl (by rw[hn];rw[show b=gp from hb];rfl),by rw[show b=gp from hb];exact hl.2⟩),hg⟩
theorem Sep.dunpin(h:Sep wb w own){n:N}{T gp:Nat}{cur:Array Value}(hn:own n = .obj gp (.cells cur T (0,0))){sz k:Nat}{y:Value}{xs:List Value}(ho:OwnAt w T sz y k xs)(hy:∀ b,y.ownBlock=some b->b=gp):Sep wb w (upd own n (.row T sz y k xs)) :=
 h.put n _ h.base (Nat.le_refl _) (λ_ _ _ _=>rfl) ho (λb hb=>⟨.inl (by rw[hn];exact hy b hb),ho.lt b hb⟩)
theorem OwnAt.dmove{w w':World}{T sz n gp:Nat}{y:Value}{xs:List Value}(h:OwnAt w T sz y n xs)(hy:∀ b,y.ownBlock=some b->b=gp)(hg:w'.heap[gp]? = w.heap[gp]?):OwnAt w' T sz y n xs:=h.same (λk hk=>by rw[hy k hk];exact hg)
theorem zae.dmove{w w':World}{y:Value}{l:Bytes}{gp:Nat}(h:zae w y l)(hy:∀ b,y.ownBlock=some b->b=gp)(hg:w'.heap[gp]? = w.heap[gp]?):zae w' y l:=by
 obtain⟨a,cap,rfl,h1,h2,h3⟩:=h;refine⟨a,cap,rfl,h1,h2,?_⟩;rcases h3 with h3 | ⟨b,o,rfl,hc⟩
 ·exact .inl h3
 ·refine .inr ⟨b,o,rfl,λi hi => ?_⟩;have hb:b=gp:=hy b rfl;subst hb;rw[<-hc i hi];exact World.cell?_of_block hg
theorem zaa.setInn(h:zaa own nm g d v)(p:Bytes)(r:Res)(y:Value)(hs:Sep wb w (upd own (nm .inn) r)) :
  ∃ own',Sep wb (w.setCell ⟨g,15,none⟩ y) own'/\zaa own' nm g { d with inn:=p } { v with rp:=r,vI:=y }/\zai nm own own':=by
 have k:upd own (nm .inn) r (nm .conn) = .obj g (.cells (zbc d v) 105 (0,0)):=by rw[zad h.inj,if_neg (by simp)];exact h.conn
 refine⟨_,hs.setObj k 15 y,⟨h.inj,λx => ?_,h.frl,h.mapM,h.mapT,⟨h.wf.ids,h.wf.rings⟩,h.nilB,h.nilH⟩,((zai.refl nm own).upd _ _).upd _ _⟩;rw[zad h.inj,zad h.inj,h.res];cases x<;>simp only[zao,reduceCtorEq,if_false,if_true]
 rfl
theorem zaa.reIn(h:zaa own nm g d v)(r:Res):zaa (upd own (nm .inn) r) nm g d { v with rp:=r }:=by
 refine⟨h.inj,λx => ?_,h.frl,h.mapM,h.mapT,h.wf,h.nilB,h.nilH⟩;rw[zad h.inj,h.res];cases x<;>simp only[zao,reduceCtorEq,if_false,if_true]
 rfl
end
def RInD{N:Type}(nm:DN->N)(g:Nat)(wb:World)(own:N->Res)(d':Ds)(e:Ending)(w':World):Prop :=
 e = .returned (.tuple #[]) /\ ∃ own' v',Sep wb w' own'/\zaa own' nm g d' v'/\zai nm own own'/\znd d' v'
def ztv(g:Nat)(w:World):Nat:=match w.cell? ⟨g,20,none⟩,w.cell? ⟨g,15,none⟩ with
 | some (.bool false),some (.slice _ n _)=>n+1
 | _,_=>0
section
variable {N:Type} {own:N->Res} {nm:DN->N} {g:Nat} {d:Ds} {v:DV} {wb w:World}
theorem zpn(h:zaa own nm g d v)(hs:Sep wb w own)(hf:d.failed=true):ztv g w=0:=by unfold ztv;rw[h.c20 hs,hf]
theorem zzh(h:zaa own nm g d v)(hs:Sep wb w own)(hi:znd d v)(hf:d.failed=false):ztv g w=d.inn.length+1:=by
 unfold ztv;rw[h.c20 hs,hf,h.c15 hs]
 have:=hs.get (h.res .inn)
 rw[show zao g d v .inn=v.rp from rfl,hi hf] at this;obtain⟨a,cap,e,_⟩:=OwnAt.slice this;rw[e]
theorem zzi{w:World}{cs:Array Value}{T g o:Nat}{y:Value}(hg:g<w.heap.size)(k:Nat):((w.alloc (.cells cs T (0,0))).setCell ⟨g,o,none⟩ y).cell? ⟨w.heap.size,k,none⟩=cs[k]?:=by have h1:((w.alloc (.cells cs T (0,0))).setCell ⟨g,o,none⟩ y).heap[w.heap.size]? = (w.alloc (.cells cs T (0,0))).heap[w.heap.size]?:=Below.heap_setCell _ _ _ _ (by simp;omega);rw[World.cell?_of_block h1];have h2:=heap_alloc_new w (.cells cs T (0,0));unfold World.cell?;rw[h2];rfl
theorem Ds.Fits.innD{d:Ds}{m:Nat}(f:d.Fits m)(x:Bytes)(hx:x.length<=68719476736):Ds.Fits { d with inn:=x } m :=
 ⟨f.mLast,f.tLast,f.mMost,f.tMost,f.mCount0,f.mCount1,f.tCount0,f.tCount1,f.from0,f.from1,f.to0,f.to1,f.ctl,f.ring,f.ev,hx,f.pings,f.coming,f.bodies,f.st⟩
set_option maxHeartbeats 6400000 in
theorem zzbjo(Good:Ds->Prop)(hG:GoodD Good)(h:zaa own nm g d v)(hs:Sep wb w own)(hi:znd d v)(vb:Value)(b:Bytes)(hb:zae w vb b)(hl:d.failed=false->d.inn.length+b.length<=68719476736)(hc:d.failed=false->Good { d with inn:=d.inn++b }) :
  Calls Tryz.prog 22 #[.pointer (some ⟨g,0,none⟩),vb] w (RInD nm g wb own (d.takes b)):=by
 obtain⟨i0,hi0,hz0,hz1,hz2⟩:=zbk Tryz.infoU;have f20:=h.c20 hs;obtain⟨T,hT⟩:∃ T,T=d.takes b:=⟨_,rfl⟩;rw[<-hT];cases hfa:d.failed with
 | true =>
  have HT:Hid (T=d):=by show T=d;rw[hT];unfold Ds.takes;rw[if_pos hfa]
  rw[hfa] at f20;clear hT hc
  go_enter Tryz.func22,Tryz.ntmps22
  go_wp2
  refine bodyPost_ret (results_none rfl _ _ _) rfl ?_;exact⟨rfl,own,v,hs,by rw[HT.out];exact h,zai.refl _ _,by rw[HT.out];exact hi⟩
 | false =>
  have HT:Hid (∃ f,(Ds.failed { d with inn:=d.inn++b }=false->(d.inn++b).length<=f)/\Ds.looks f { d with inn:=d.inn++b }=T):=by refine⟨(d.inn++b).length+1,λ_=>Nat.le_succ _,?_⟩;rw[hT];unfold Ds.takes;rw[if_neg (by rw[hfa];simp)]
  have hgd:=hc hfa;have hl:=hl hfa;have hpr:own (nm .inn) = .row 5 1 v.vI d.inn.length (zab d.inn):=(h.res .inn).trans (hi hfa);have hO:OwnAt w 5 1 v.vI d.inn.length (zab d.inn):=hs.get hpr;obtain⟨aP,cP,hvP,-,-⟩:=hO.slice;have f15:=h.c15 hs;have hsrc:=zed hb;obtain⟨ab,cb,hvb,hb1,hb2,-⟩:=hb;rw[hvP] at f15 hO;rw[hvb] at hsrc ⊢;rw[hfa] at f20;have HCB:Hid (zab (d.inn++b)=zab d.inn++zab b):=zbe _ _;have hlw:(d.inn++b).length=d.inn.length+b.length:=List.length_append;generalize hPB:d.inn++b=PB at *;have HLW:=hide hlw;have hPl:PB.length<=68719476736:=by omega
  clear hlw hT hc hPB hvb
  go_enter Tryz.func22,Tryz.ntmps22
  go_wp2_with (at_builtin;refine zbh _ rfl (.tmp 15) (.tmp 16) 34 34 rfl 5 i0 (.int .u8 0) 1 1 Tryz.underlying34 hi0 hz0 hz1 hz2 rfl _ _ _ rfl hO _ _ _ rfl hsrc ?_ ?_ ?_)
  ·unfold maxLen;omega
  ·omega
  intro v2 w2 hA2 hG2;have hA3:=zbv hA2 HLW.out.symm HCB.out.symm;rw[<-hvP] at hG2;obtain⟨a2,k2,hv2,hk1,hk2⟩:=hA3.slice;subst hv2;have S2:=hs.grew hpr hG2 hA3;have c2:upd own (nm .inn) (.row 5 1 (.slice a2 PB.length k2) PB.length (zab PB)) (nm .conn) = .obj g (.cells (zbc d v) 105 (0,0)):=by rw[zad h.inj,if_neg (by simp)];exact h.conn
  have f15':w2.cell? ⟨g,15,none⟩=some v.vI:=S2.cell c2 15;have t15:=S2.thaw c2 15;obtain⟨own3,s3,h3,m3⟩:=h.setInn PB (.row 5 1 (.slice a2 PB.length k2) PB.length (zab PB)) (.slice a2 PB.length k2) S2;clear hA2 hA3 hG2 hO hsrc f15 f20 S2 c2 hpr
  go_wp2
  go_loopw [5] (λ_ wr => ∃ (cc:Ds) (own':N->Res) (v':DV),Sep wb wr own'/\zaa own' nm g cc v'/\zai nm own own'/\znd cc v'/\(cc.failed=false->Good cc)/\Hid (∃ f,(cc.failed=false->cc.inn.length<=f)/\Ds.looks f cc=T)) (λ_ wr=>ztv g wr)
  case atStart=>exact⟨_,own3,_,s3,h3,m3,λ_=>rfl,λ_=>hgd,HT⟩
  case round =>
   obtain⟨cc,ownc,vc,sc,hcc,mc,pc,gc,HF⟩:=hrel;clear f15' t15 s3 h3 m3 HT hgd;have g20:=hcc.c20 sc;cases hfc:cc.failed with
   | true =>
    have HR:Hid (T=cc):=by obtain⟨f,_,e⟩:=HF.out;show T=cc;rw[<-e,zbb f cc (.inl hfc)]
    rw[hfc] at g20;clear HF hfc
    go_wp2
    go_end0
    exact⟨rfl,ownc,vc,sc,by rw[HR.out];exact hcc,mc,by rw[HR.out];exact pc⟩
   | false =>
    rw[hfc] at g20;have g15:=hcc.c15 sc;have hpc:ownc (nm .inn) = .row 5 1 vc.vI cc.inn.length (zab cc.inn):=(hcc.res .inn).trans (pc hfc);have hOc:OwnAt wr 5 1 vc.vI cc.inn.length (zab cc.inn):=sc.get hpc;have hBc:zae wr vc.vI cc.inn:=OwnAt.isBytes hOc;have gcc:=gc hfc;have hLE:=zzh hcc sc pc hfc;by_cases h6:cc.inn.length<6
    ·have HR:Hid (T=cc):=by obtain⟨f,_,e⟩:=HF.out;show T=cc;rw[<-e,zbb f cc (.inr h6)]
     have kc:=zzbbp wr vc.vI cc.inn hBc h6;obtain⟨aq,cq,hvq,hq1,hq2⟩:=hOc.slice;rw[hvq] at g15 kc;unfold zkq at kc;clear HF hOc hBc hLE
     go_wp2_with fail
     refine kc.mono ?_;rintro e w5 ⟨rfl,he⟩
     go_wp2
     refine bodyPost_ret (results_none rfl _ _ _) rfl ?_;exact⟨rfl,ownc,vc,sc.ext (he.alloc _),by rw[HR.out];exact hcc,mc,by rw[HR.out];exact pc⟩
    have h6':6<=cc.inn.length:=by omega
    by_cases h64:64<Cs.num cc.inn 0
    ·have kc:=zwh wr vc.vI cc.inn hBc h6' (.inl h64);rw[if_pos h64] at kc;have HR:Hid (∃ f,((cc.fail 3).failed=false->(cc.fail 3).inn.length<=f)/\Ds.looks f (cc.fail 3)=T):=by
      obtain⟨f,hf1,e⟩:=HF.out;have hf2:=hf1 hfc;obtain⟨f',rfl⟩:∃ f',f=f'+1:=⟨f-1,by omega⟩;refine⟨f',λe=>(by cases e),?_⟩;rw[<-e,zej f' cc hfc h6' h64,zbb f' _ (.inl rfl)]
     have hff:=(hG.fits cc gcc).mono (m':=2) (by omega);obtain⟨aq,cq,hvq,hq1,hq2⟩:=hOc.slice;rw[hvq] at g15 kc;unfold zkq at kc;clear HF hOc hBc
     go_wp2_with fail
     refine kc.mono ?_;rintro e w5 ⟨rfl,he⟩;have kf:=zaq hcc (sc.ext (he.alloc (.cells #[.int .i64 0,.int .i64 0,.int .i64 0,.slice none 0 0] 111))) hff 3
     go_wp2_with fail
     refine kf.mono ?_;rintro e w6 ⟨rfl,own6,v6,s6,h6,m6,r6,i6,-⟩;have hL6:=zpn h6 s6 rfl
     go_wp2
     go_roundw
     case rel=>exact⟨cc.fail 3,own6,v6,s6,h6,mc.trans m6,λe=>(by cases e),λe=>(by cases e),HR⟩
     case measure=>omega
    by_cases hno:cc.inn.length<6+Cs.num cc.inn 0
    ·have kc:=zwh wr vc.vI cc.inn hBc h6' (.inr hno);rw[if_neg h64] at kc;have HR:Hid (T=cc):=by
      obtain⟨f,hf1,e⟩:=HF.out;have hf2:=hf1 hfc;obtain⟨f',rfl⟩:∃ f',f=f'+1:=⟨f-1,by omega⟩
      show T=cc
      rw[<-e,zeu f' cc hfc h6' (by omega) hno]
     obtain⟨aq,cq,hvq,hq1,hq2⟩:=hOc.slice;rw[hvq] at g15 kc;unfold zkq at kc;clear HF hOc hBc hLE
     go_wp2_with fail
     refine kc.mono ?_;rintro e w5 ⟨rfl,he⟩
     go_wp2
     refine bodyPost_ret (results_none rfl _ _ _) rfl ?_;exact⟨rfl,ownc,vc,sc.ext (he.alloc _),by rw[HR.out];exact hcc,mc,by rw[HR.out];exact pc⟩
    ·have hnum:Cs.num cc.inn 0<=64:=by omega
     have hwh:6+Cs.num cc.inn 0<=cc.inn.length:=by omega
     have hGN:=hG.next cc gcc hfc h6' hnum hwh;have hFT:=hG.fits cc gcc;have hS0:=hG.st0 cc gcc;have hNW:=hG.new cc gcc;have hCM:=hG.cm cc gcc;have HFS:Hid (∃ f,((zbd cc).failed=false->(zbd cc).inn.length<=f)/\Ds.looks f (zbd cc)=T):=by
      obtain⟨f,hf1,e⟩:=HF.out;have hf2:=hf1 hfc;obtain⟨f',rfl⟩:∃ f',f=f'+1:=⟨f-1,by omega⟩;rw[zdo f' cc hfc h6' hnum hwh] at e;refine⟨f',λhx => ?_,e⟩;have hkk:Kin (zcg cc).inn (zbd cc):=zet (zcg cc) _ _ _ _;rcases hkk with hk | hk
      ·rw[hk] at hx;cases hx
      ·rw[hk];unfold zcg;dsimp only;rw[List.length_drop];omega
     have HKI:Hid (Kin (cc.inn.drop (6+Cs.num cc.inn 0)) (zbd cc)):=zet (zcg cc) _ _ _ _;have HBL:Hid ((zei cc).length<=64):=by show _<=_;unfold zei;rw[List.length_drop,List.length_take];omega
     have HDS:Hid (zbd cc=(zcg cc).done (cc.inn.getD 2 0).toNat (cc.inn.getD 3 0).toNat (Cs.num cc.inn 4) (zei cc)):=rfl;have z2:(cc.inn.getD 2 0).toNat<256:=(cc.inn.getD 2 0).toNat_lt;have z3:(cc.inn.getD 3 0).toNat<256:=(cc.inn.getD 3 0).toNat_lt;have z4:Cs.num cc.inn 4<=65535:=by have:=(cc.inn.getD 4 0).toNat_lt;have:=(cc.inn.getD (4+1) 0).toNat_lt;unfold Cs.num;omega
     obtain⟨gp,op,cq,hvq,hq1⟩:=zgp hOc (by omega);rw[hvq] at g15 hBc hOc hpc;obtain⟨n,hn⟩:∃ n,Cs.num cc.inn 0=n:=⟨_,rfl⟩;have kc:=zzbbq wr gp op cc.inn.length cq cc.inn hBc n hn (by omega) (by omega);have hmid:=(zzf hBc 6 (6+n) (by omega) (by omega)).2;rw[show 6+n-6=n by omega] at hmid;have hOr:=hOc.from (6+n) (by omega);rw[zhr] at hOr;have hdrop:List.drop ((6+n)*1) (zab cc.inn)=zab (cc.inn.drop (6+n)):=by unfold zab;rw[Nat.mul_one,List.map_drop]
     rw[hdrop] at hOr;obtain⟨cur,sp,hgc⟩:=sc.dpin hpc;have HBD:Hid (zei cc=(cc.inn.take (6+n)).drop 6):=by show zei cc=_;unfold zei;rw[hn]
     have HRD:Hid (zcg cc = { cc with inn:=cc.inn.drop (6+n) }):=by show zcg cc=_;unfold zcg;rw[hn]
     have HDL:Hid (cc.inn.length-(6+n)=(cc.inn.drop (6+n)).length):=by show _=_;rw[List.length_drop]
     rw[hn] at HKI;have hng:g<wr.heap.size:=(sc.low (nm .conn) g (by rw[hcc.conn];rfl)).2;have HGP:Hid (∀ u:World,Res.ok u (.obj gp (.cells cur 5 (0,0)))->zae u (.slice (some ⟨gp,if cq=6 then op else op+6,none⟩) n (cq-6)) (zei cc)/\OwnAt u 5 1 (.slice (some ⟨gp,if cq=6+n then op else op+(6+n),none⟩) (cc.inn.length-(6+n)) (cq-(6+n))) (cc.inn.length-(6+n)) (zab (cc.inn.drop (6+n)))):=λu hu=>by rw[HBD.out];exact⟨hmid.dmove (λb hb=>by simp only[Value.ownBlock,Option.some.injEq] at hb;exact hb.symm) (hu.trans hgc.symm),hOr.dmove (λb hb=>by simp only[Value.ownBlock,Option.some.injEq] at hb;exact hb.symm) (hu.trans hgc.symm)⟩
     have HLT:Hid (n<=cc.inn.length-6/\6<=cc.inn.length):=⟨by omega,h6'⟩;clear hmid hOr hdrop hOc hBc HF hnum hwh hno h64 HBD hn hpc hgc;generalize (cc.inn.getD 2 0).toNat=x2 at *;generalize (cc.inn.getD 3 0).toNat=x3 at *;generalize Cs.num cc.inn 4=x4 at *;generalize (if cq=6 then op else op+6)=o6 at *;generalize (if cq=6+n then op else op+(6+n))=ob at *;generalize cq-6=q6 at *;generalize cq-(6+n)=qb at *;generalize hnb:cc.inn.length-(6+n)=nb at *;have HNB:=hide hnb;clear hnb
     go_wp2_with fail
     refine kc.mono ?_;rintro e w5 ⟨rfl,he⟩;have hng5:g<w5.heap.size:=Nat.lt_of_lt_of_le hng he.size;have hea:=he.alloc (.cells #[.int .i64 (x2:Int),.int .i64 (x3:Int),.int .i64 (x4:Int),.slice (some ⟨gp,o6,none⟩) n q6] 111);obtain⟨own1,s1,h1,m1⟩:=hcc.setInn (cc.inn.drop (6+n)) (.obj gp (.cells cur 5 (0,0))) (.slice (some ⟨gp,ob,none⟩) nb qb) (sp.ext hea);have y15:=hea.cell g15;have t15:=hcc.thaw (sc.ext hea) 15;have hC0:=λk=>zzi (w:=w5) (cs:=#[.int .i64 (x2:Int),.int .i64 (x3:Int),.int .i64 (x4:Int),.slice (some ⟨gp,o6,none⟩) n q6]) (T:=111) (o:=15) (y:=.slice (some ⟨gp,ob,none⟩) nb qb) hng5 k;obtain⟨W1,hW1⟩:∃ W1,World.setCell (w5.alloc (.cells #[.int .i64 (x2:Int),.int .i64 (x3:Int),.int .i64 (x4:Int),.slice (some ⟨gp,o6,none⟩) n q6] 111)) ⟨g,15,none⟩ (.slice (some ⟨gp,ob,none⟩) nb qb)=W1:=⟨_,rfl⟩;rw[hW1] at s1 hC0;have b0:W1.cell? ⟨w5.heap.size,0,none⟩=some (.int .i64 (x2:Int)):=hC0 0;have b1:W1.cell? ⟨w5.heap.size,1,none⟩=some (.int .i64 (x3:Int)):=hC0 1;have b2:W1.cell? ⟨w5.heap.size,2,none⟩=some (.int .i64 (x4:Int)):=hC0 2;have b3:W1.cell? ⟨w5.heap.size,3,none⟩=some (.slice (some ⟨gp,o6,none⟩) n q6):=hC0 3;rw[<-HRD.out] at h1;have F6:(zcg cc).Fits 6:=hFT.innD _ (by rw[List.length_drop];have:=hFT.inn;omega);have kd:=zzbjl h1 s1 F6 x2 x3 x4 (.slice (some ⟨gp,o6,none⟩) n q6) (zei cc) (λu hu=>(HGP.out u hu).1) HBL.out (by omega) (by omega) hS0 (λh1 h2=>hNW x4 (by omega) h1 h2) hCM;unfold frV at kd;rw[<-HDS.out] at kd;have M1:=hide (mc.trans m1);have HGN:=hide hGN;clear hC0 h1 s1 F6 m1 hGN hFT hS0 hNW hCM sp hea
     go_wp2_with fail
     refine kd.mono ?_;rintro e w7 ⟨rfl,own2,v2,s2,h2,m2,r2,i2,-⟩;dsimp only at r2 i2;cases hfd:(zbd cc).failed with
     | true =>
      have hL:=zpn h2 s2 hfd
      go_wp2
      go_roundw
      case rel=>exact⟨zbd cc,own2,v2,s2,h2,M1.out.trans m2,λe=>(by rw[hfd] at e;cases e),λe=>(by rw[hfd] at e;cases e),HFS⟩
      case measure=>omega
     | false =>
      have HIN:Hid ((zbd cc).inn=cc.inn.drop (6+n)):=by
       rcases HKI.out with hk|hk
       ·rw[hfd] at hk;cases hk
       ·exact hk
      have hgp:w7.heap[gp]? = some (.cells cur 5 (0,0)):=by have hx:=s2.get (h2.res .inn);rw[show zao g (zbd cc) v2 .inn=v2.rp from rfl,r2] at hx;exact hx
      have hO3:=zbv (m:=(zbd cc).inn.length) (ys:=zab (zbd cc).inn) (HGP.out w7 hgp).2 (by rw[HIN.out];exact HDL.out) (by rw[HIN.out]);have s3:=s2.dunpin ((h2.res .inn).trans r2) hO3 (λb hb=>by simp only[Value.ownBlock,Option.some.injEq] at hb;exact hb.symm);have h3:=h2.reIn (.row 5 1 (.slice (some ⟨gp,ob,none⟩) nb qb) (zbd cc).inn.length (zab (zbd cc).inn));have hi3:znd (zbd cc) { v2 with rp:=.row 5 1 (.slice (some ⟨gp,ob,none⟩) nb qb) (zbd cc).inn.length (zab (zbd cc).inn) }:=λ_=>by
       show Res.row _ _ _ _ _=Res.row _ _ v2.vI _ _
       rw[i2 hfd]
      have hL3:=zzh h3 s3 hi3 hfd;rw[HIN.out,List.length_drop] at hL3;have m3:=M1.out.trans (m2.upd .inn (.row 5 1 (.slice (some ⟨gp,ob,none⟩) nb qb) (zbd cc).inn.length (zab (zbd cc).inn)));have hg3:=HGN.out hfd;have hlt:=HLT.out;clear hO3 hgp
      go_wp2
      go_roundw
      case rel=>exact⟨zbd cc,_,_,s3,h3,m3,hi3,λ_=>hg3,HFS⟩
      case measure=>omega
end
end Go.Proofs.YtoijpogadkogcaaGreat
