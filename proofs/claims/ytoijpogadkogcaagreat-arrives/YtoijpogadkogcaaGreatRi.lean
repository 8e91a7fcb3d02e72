import Derived.Test.YtoijpogadkogcaaGreatRh
namespace Go.Proofs.YtoijpogadkogcaaGreat
variable {d:Ds} {c:Cs}
theorem Sim.noCom(h:Sim d c)(hids:Ids c)(h0:c.now=0)(n:Nat):(vl c.l n).coming=false:=by
 cases hi:al c.l n with
 | none=>unfold vl;rw[zhu c.l n hi];rfl
 | some i =>
  have:=h.str n
  rw[(zcs c.l n i hi).2.1,<-zdg c.l n i hi] at this;dsimp only at this;cases hc:(vl c.l n).coming with
  | false=>rfl
  | true =>
   rw[hc] at this;have h1:=(hids n (zem c.l n i hi)).1;have h2:c.now=n:=this.2;omega
theorem Sim.found(h:Sim d c)(hids:Ids c)(h0:c.now=0)(n:Nat)(hk:c.known (n:Int)=true) :
  (d.find (n:Int) = { state:=8 }/\(al c.l n=none \/ ∃ i,al c.l n=some i/\(vl c.l n).reset=true)) \/ ∃ i s,al c.l n=some i/\d.find (n:Int)=s/\d.str n=some s/\(vl c.l n).coming=false/\SR c.client n s (vl c.l n):=by
 have hcm:=h.noCom hids h0 n;rcases h.find hids n with ⟨h1,-⟩ | ⟨-,h2,h3⟩ | ⟨-,h3⟩
 ·rw[hk] at h1;cases h1
 ·refine .inl ⟨h2,?_⟩;rcases h3 with h3 | ⟨i,h3,h4⟩
  ·exact .inl h3
  ·refine .inr ⟨i,h3,?_⟩;rcases h4 with h4 | h4
   ·rw[hcm] at h4;cases h4
   ·exact h4.2.1
 ·exact .inr h3
theorem Sim.state0(h:Sim d c)(hids:Ids c)(n:Nat):(d.find (n:Int)).state=0↔c.known (n:Int)=false:=by
 rcases h.find hids n with ⟨h1,h2⟩|⟨h1,h2,-⟩|⟨h1,i,s,-,h3,-,-,h6⟩
 ·rw[h1,h2];simp
 ·rw[h1,h2];simp
 ·rw[h1,h3];simp[h6.state_pos]
theorem Sim.lay(h:Sim d c)(k f i:Nat)(b:Bytes):Sim (d.lay k f i b) (c.ctl k f i b):=by
 refine h.scal ?_ rfl rfl rfl rfl rfl rfl;refine { h.sc with ctl:=?_ }
 show c.control++[frame k f i b]=(d.ctl++[(k,f,i,b)]).map _
 rw[List.map_append,<-h.sc.ctl];rfl
theorem Sim.tell(h:Sim d c)(k i x:Nat):Sim (d.tell k i x) (c.ev k i x):=by
 refine h.scal { h.sc with ev:=?_ } rfl rfl rfl rfl rfl rfl
 show d.ev++_=c.events++_
 rw[h.sc.ev]
theorem zmx(d:Ds)(s:DS)(to:Nat):(d.move s to).str=(λk=>if k=s.id then some (Ds.moved s to) else d.str k)/\(d.move s to).ring=d.ring:=by
 unfold Ds.move;obtain⟨b1,b2⟩:=zxe d s.mine (Ds.shift s to);refine⟨?_,b2⟩
 show (λk=>if k=s.id then some (Ds.moved s to) else (d.bump s.mine _).str k)=_
 rw[b1]
theorem zdv.move(h:zdv d c)(s:DS)(to:Nat):zdv (d.move s to) c:={ h.bump s.mine (Ds.shift s to) with }
theorem Sim.moves(h:Sim d c){n i:Nat}{s:DS}(hi:al c.l n=some i)(hc:(vl c.l n).coming=false)(hs:d.str n=some s)(hr:SR c.client n s (vl c.l n))(ht:zan s.state=true)(to:Nat)(h1:zan to=true):Sim (d.move s to) c:=by
 have hre:(vl c.l n).reset=true:=by rw[<-hr.isReset];unfold zan at ht;unfold zbx;simp only[Bool.or_eq_true,beq_iff_eq] at ht ⊢;omega
 obtain⟨a1,a2,a3,a4,a5,a6,a7,a8⟩:=hr.dead hre;have hto:5<=to/\to<=7:=by unfold zan at h1;simp only[Bool.or_eq_true,beq_iff_eq] at h1;omega
 have hst:s.state<=7:=by unfold zan at ht;simp only[Bool.or_eq_true,beq_iff_eq] at ht;omega
 have hkp:s.kept=true:=by rw[hr.kept];simp;omega
 obtain⟨m1,m2⟩:=zmx d s to;have hs':SR c.client n (Ds.moved s to) (vl c.l n):=by
  refine⟨hr.id,hr.mine,hr.hd,hr.fr,hr.to,hr.un,hr.da,hr.he,λhx=>(by rw[hre] at hx;cases hx),λ_=>⟨hto.1,by show to<=8;omega,⟨λe => ?_,λe => ?_⟩,λ_=>a4 (by omega),a5,a6,a7,a8⟩,?_,hr.oh⟩
  ·have:to=8:=e
   omega
  ·have:=a3.2 e
   omega
  ·show (s.kept && !(to == 8 && s.headers.isEmpty))=_
   rw[hkp];rfl
 have hw:(Ds.moved s to).waits=s.waits:=by
  unfold DS.waits
  show (_ || zan to || _ || _)=(_ || zan s.state || _ || _)
  rw[h1,ht];simp
 exact h.same hs hi hw hc hs' (by rw[m1,hr.id]) rfl m2 rfl rfl (h.sc.move s to) rfl
theorem Sim.passOver(h:Sim d c){n:Nat}{s:DS}(hs:(s = { state:=8 }) \/ ∃ i,al c.l n=some i/\(vl c.l n).coming=false/\d.str n=some s/\SR c.client n s (vl c.l n)/\(vl c.l n).reset=true)(fin:Bool)(k:Nat) :
  Sim (({ d with to_:=d.to_-(k:Int) }:Ds).passOver s fin k) { (Cs.gives { c with recv:=c.recv-k } 0 k) with recv:=c.recv }:=by
 have h1:Sim (if 0<k then ({ d with to_:=d.to_-(k:Int) }:Ds).give0 k else { d with to_:=d.to_-(k:Int) }) { (Cs.gives { c with recv:=c.recv-k } 0 k) with recv:=c.recv }:=by
  rw[zdh];refine h.scal ?_ (by split<;>rfl) (by split<;>rfl) rfl rfl rfl rfl;split
  ·refine { h.sc with ctl:=?_,to:=?_ }
   ·show d.to_-(k:Int)+(k:Int)=c.recv
    rw[h.sc.to];omega
   ·show c.control++(wfs 0 k).map Fr.enc=(d.ctl++[(7,0,0,two k)]).map _
    rw[zis,if_pos (by omega),List.map_append,<-h.sc.ctl];rfl
  ·refine { h.sc with ctl:=?_,to:=?_ }
   ·show d.to_-(k:Int)=c.recv
    rw[h.sc.to];omega
   ·show c.control++(wfs 0 k).map Fr.enc=d.ctl.map _
    rw[zis,if_neg (by omega),List.append_nil,<-h.sc.ctl]
 unfold Ds.passOver;dsimp only;cases fin
 ·exact h1
 ·rw[if_pos rfl];unfold Ds.endThere;rcases hs with rfl | ⟨i,hi,hc,hs,hr,hre⟩
  ·exact h1
  ·obtain⟨a1,a2,-⟩:=hr.dead hre;have hgl:(({ (Cs.gives { c with recv:=c.recv-k } 0 k) with recv:=c.recv }:Cs)).l=c.l:=by rw[zdh]
   have hgc:(({ (Cs.gives { c with recv:=c.recv-k } 0 k) with recv:=c.recv }:Cs)).client=c.client:=by rw[zdh]
   by_cases h6:s.state=6
   ·have e:Ds.thereTo s=some 7:=by unfold Ds.thereTo;rw[h6];rfl
    rw[e];refine h1.moves (n:=n) (i:=i) (by rw[hgl];exact hi) (by rw[hgl];exact hc) ?_ (by rw[hgl,hgc];exact hr) (by rw[h6];rfl) 7 rfl;split<;>exact hs
   ·have e:Ds.thereTo s=none:=by
     unfold Ds.thereTo;rw[if_neg (by omega),if_neg (by omega),if_neg h6]
    rw[e];exact h1
theorem Sim.endThere(h:Sim d c){n i:Nat}{s:DS}(hi:al c.l n=some i)(hc:(vl c.l n).coming=false)(hs:d.str n=some s)(hr:SR c.client n s (vl c.l n))(hre:(vl c.l n).reset=false)(hth:(vl c.l n).theirs=false):Sim (d.endThere s) (c.mod i λs => { s with theirs:=true }):=by
 obtain⟨a1,a2,a3⟩:=hr.live hre;obtain⟨to,hto,e⟩:∃ to,Ds.thereTo s=some to/\to=s.state+2:=by
  rw[hth] at a1;unfold Ds.thereTo;cases hm:(vl c.l n).mine<;>rw[hm] at a1<;>simp at a1<;>rw[a1]
  ·exact⟨3,rfl,rfl⟩
  ·exact⟨4,rfl,rfl⟩
 unfold Ds.endThere;rw[hto];obtain⟨m1,m2⟩:=zmx d s to;have hst:s.state=1\/s.state=2:=by rw[hth] at a1;cases hm:(vl c.l n).mine<;>rw[hm] at a1<;>simp at a1<;>omega
 have hkp:s.kept=true:=by rw[hr.kept];simp;omega
 have hs':SR c.client n (Ds.moved s to) { vl c.l n with theirs:=true }:=by
  refine⟨hr.id,hr.mine,hr.hd,hr.fr,hr.to,hr.un,hr.da,hr.he,λ_=>⟨?_,a2,a3⟩,λhx => ?_,?_,hr.oh⟩
  ·show to=_
   rw[e,a1,hth];simp
  ·have:(vl c.l n).reset=true:=hx
   rw[hre] at this;cases this
  ·show (s.kept && !(to == 8 && s.headers.isEmpty))=_
   rw[hkp];rfl
 have hw:(Ds.moved s to).waits=s.waits:=by rw[hs'.waits,hr.waits];rfl
 show Sim (d.move s to) _
 exact h.step0 hs hi (F:=λs => { s with theirs:=true }) (λ_=>rfl) hw hc hs' (by rw[m1,hr.id]) rfl m2 rfl rfl { h.sc.move s to with } rfl
theorem Sim.doData(h:Sim d c)(hids:Ids c)(h0:c.now=0)(fin:Bool)(id:Nat)(body:Bytes)(hk:c.known (id:Int)=true)(hz:(c.comes fin id body).2=0):Sim (d.doData fin id body) (c.comes fin id body).1:=by
 unfold Cs.comes at hz ⊢;unfold Ds.doData;dsimp only at hz ⊢;have hs0:¬ (d.find (id:Int)).state=0:=by rw[h.state0 hids];rw[hk];simp
 rw[if_neg hs0];by_cases hrc:c.recv<body.length
 ·rw[if_pos hrc] at hz;cases hz
 rw[if_neg hrc] at hz ⊢;rw[if_neg (by rw[h.sc.to];omega),zcw];rw[zcw] at hz;rcases h.found hids h0 id hk with ⟨h2,h3⟩ | ⟨i,s,h2,h3,h4,h5,h6⟩
 ·rw[h2,if_pos (by rfl)];have hg:=h.passOver (n:=id) (.inl h2) fin body.length;rw[h2] at hg;rcases h3 with h3 | ⟨i,h3,h4⟩
  ·rw[h3];exact hg
  ·rw[h3];dsimp only;rw[zca c id i h3,if_pos h4];exact hg
 ·rw[h2] at hz ⊢;dsimp only at hz ⊢;rw[h3,zca c id i h2,h6.isReset];rw[zca c id i h2] at hz;cases hre:(vl c.l id).reset with
  | true =>
   rw[if_pos rfl,if_pos rfl];exact h.passOver (n:=id) (.inr ⟨i,h2,h5,h4,h6,hre⟩) fin body.length
  | false =>
   rw[hre] at hz;rw[if_neg Bool.false_ne_true] at hz;rw[if_neg Bool.false_ne_true,if_neg Bool.false_ne_true,h6.isEnded hre];by_cases hth:(vl c.l id).theirs=true
   ·rw[if_pos hth] at hz;cases hz
   rw[if_neg hth] at hz;rw[if_neg hth,if_neg hth];by_cases hw:(vl c.l id).recv<body.length
   ·rw[if_pos hw] at hz;cases hz
   rw[if_neg hw,if_neg (by rw[h6.to];omega)];have hs':SR c.client id { s with to_:=s.to_-body.length,unread:=s.unread++body } { vl c.l id with recv:=(vl c.l id).recv-body.length,unread:=(vl c.l id).unread++body } :=
    { h6 with un:=by dsimp only;rw[h6.un],to:=by dsimp only;rw[h6.to];omega,dead:=λh1=>absurd h1 (by dsimp only;rw[hre];simp) }
   have hD:Sim (({ d with to_:=d.to_-(body.length:Int) }:Ds).setS s.id { s with to_:=s.to_-body.length,unread:=s.unread++body }) (Cs.mod { c with recv:=c.recv-body.length } i λs => { s with recv:=s.recv-body.length,unread:=s.unread++body }):=by
    refine h.step0 h4 h2 (F:=λs => { s with recv:=s.recv-body.length,unread:=s.unread++body }) (s':={ s with to_:=s.to_-body.length,unread:=s.unread++body }) (λ_=>rfl) rfl h5 hs' ?_ rfl rfl rfl rfl { h.sc with to:=?_ } rfl
    ·show (λk=>if k=s.id then _ else d.str k)=_
     rw[h6.id]
    ·show d.to_-(body.length:Int)=((c.recv-body.length:Nat):Int)
     rw[h.sc.to];omega
   cases fin
   ·exact hD
   ·rw[if_pos rfl,if_pos rfl];unfold Ds.takeEnd
    let F:St->St:=λs => { s with recv:=s.recv-body.length,unread:=s.unread++body }
    have hi':al (c.l.modify i F) id=some i:=by rw[zen c.l i F (λ_=>rfl)];exact h2
    have hv:vl (c.l.modify i F) id=F (vl c.l id):=by rw[zbo c.l id i F (λ_=>rfl) h2,if_pos rfl]
    have hid:s.id=id:=h6.id
    have:=(hD.endThere (n:=id) (i:=i) hi' (by show (vl (c.l.modify i F) id).coming=false;rw[hv];exact h5) (by show (if id=s.id then some _ else d.str id)=_;rw[if_pos hid.symm]) (by show SR c.client id _ (vl (c.l.modify i F) id);rw[hv];exact hs') (by show (vl (c.l.modify i F) id).reset=false;rw[hv];exact hre) (by show (vl (c.l.modify i F) id).theirs=false;rw[hv];simpa using hth)).tell 2 id 0
    have e2:∀ D:Ds,D.tell 2 s.id 0=D.tell 2 id 0:=λD=>by rw[hid]
    show Sim (Ds.tell _ 2 s.id 0) _
    rw[e2];exact this
theorem Sim.doReset(h:Sim d c)(hids:Ids c)(h0:c.now=0)(id:Nat)(body:Bytes)(hk:c.known (id:Int)=true)(hb:body.length=1):Sim (d.doReset id body) (c.broken id (body.getD 0 0).toNat):=by
 unfold Cs.broken Ds.doReset;dsimp only;have hs0:¬ (d.find (id:Int)).state=0:=by rw[h.state0 hids];rw[hk];simp
 rw[if_neg hs0,if_neg (by omega),zcw];rcases h.found hids h0 id hk with ⟨h2,h3⟩ | ⟨i,s,h2,h3,h4,h5,h6⟩
 ·rw[h2,if_neg (by simp[zan]),if_pos (.inr rfl)];rcases h3 with h3 | ⟨i,h3,h4⟩
  ·rw[h3];exact h
  ·rw[h3];dsimp only;rw[zca c id i h3,h4];exact h
 ·rw[h2,h3];dsimp only;rw[zca c id i h2];cases hre:(vl c.l id).reset with
  | true =>
   rw[Bool.true_or,if_pos (rfl:true=true)];obtain⟨a1,a2,a3,a4,a5,a6,a7,a8⟩:=h6.dead hre;by_cases ht:zan s.state=true
   ·rw[if_pos ht];exact h.moves h2 h5 h4 h6 ht 7 rfl
   ·rw[if_neg ht,if_pos]
    ·exact h
    ·right;unfold zan at ht;simp only[Bool.or_eq_true,beq_iff_eq] at ht;omega
  | false =>
   obtain⟨a1,a2,a3⟩:=h6.live hre;have hnt:¬ zan s.state=true:=by rw[h6.tells,a2];simp
   rw[if_neg hnt,Bool.false_or];by_cases hov:(vl c.l id).over=true
   ·have:s.state=4:=by
     unfold St.over at hov;simp only[Bool.and_eq_true] at hov;rw[a1,hov.1,hov.2];rfl
    rw[if_pos (.inl this),if_pos hov];exact h
   ·have:¬ (s.state=4\/s.state=8):=by
     unfold St.over at hov;rw[a1];cases hm:(vl c.l id).mine<;>cases ht:(vl c.l id).theirs<;>rw[hm,ht] at hov<;>simp at hov ⊢
    rw[if_neg this,if_neg hov];have hT:=h.tell 3 id (body.getD 0 0).toNat;have key:=h.drops h2 h5 h6 hre 8 0 s.code (by omega) (by omega) (by simp) (λe=>absurd rfl e) h.sc rfl rfl;have key2:=key.tell 3 id (body.getD 0 0).toNat;have e1:(c.drops i 0).ev 3 id (body.getD 0 0).toNat=(c.ev 3 id (body.getD 0 0).toNat).drops i 0:=by rw[znu c h2,znu (c.ev 3 id (body.getD 0 0).toNat) (n:=id) h2];rfl
    rw[e1] at key2;rw[h6.id];exact key2
theorem Sim.doWindow(h:Sim d c)(hids:Ids c)(h0:c.now=0)(id:Nat)(body:Bytes)(hk:id=0\/c.known (id:Int)=true)(hb:body.length=2)(hz:(c.window id (Cs.num body 0)).2=0):Sim (d.doWindow id body) (c.window id (Cs.num body 0)).1:=by
 unfold Cs.window at hz ⊢;unfold Ds.doWindow;dsimp only at hz ⊢;rw[if_neg (λe=>by
  rcases hk with hk|hk
  ·exact e.1 hk
  ·have:=(h.state0 hids id).1 e.2
   rw[hk] at this;cases this),if_neg (by omega)]
 by_cases hn:Cs.num body 0=0
 ·rw[if_pos hn] at hz;cases hz
 rw[if_neg hn] at hz;rw[if_neg hn,if_neg hn];by_cases hid:id=0
 ·rw[if_pos hid] at hz;rw[if_pos hid,if_pos hid];by_cases hl:1000<c.send+Cs.num body 0
  ·rw[if_pos hl] at hz;cases hz
  rw[if_neg hl,if_neg (by rw[h.sc.fr];omega)];refine h.scal { h.sc with fr:=?_ } rfl rfl rfl rfl rfl rfl
  show d.from_+_=((c.send+_:Nat):Int)
  rw[h.sc.fr];omega
 ·have hk':c.known (id:Int)=true:=hk.resolve_left hid;rw[if_neg hid,zcw] at hz;rw[if_neg hid,if_neg hid,zcw];rcases h.found hids h0 id hk' with ⟨h2,h3⟩ | ⟨i,s,h2,h3,h4,h5,h6⟩
  ·rw[h2,if_neg (by simp[zaw])];rcases h3 with h3 | ⟨i,h3,h4⟩
   ·rw[h3];exact h
   ·rw[h3];dsimp only;rw[zca c id i h3,h4];exact h
  ·rw[h2] at hz ⊢;dsimp only at hz ⊢;rw[zca c id i h2] at hz;rw[h3,zca c id i h2,h6.isSends];cases hrm:((vl c.l id).reset || (vl c.l id).mine) with
   | true=>exact h
   | false =>
    rw[hrm] at hz;rw[if_neg Bool.false_ne_true] at hz;rw[Bool.not_false,if_pos (rfl:true=true),if_neg Bool.false_ne_true];by_cases hl:1000<(vl c.l id).send+Cs.num body 0
    ·rw[if_pos hl] at hz;cases hz
    rw[if_neg hl,if_neg (by rw[h6.fr];omega)];have hre:(vl c.l id).reset=false:=by cases hx:(vl c.l id).reset<;>simp[hx] at hrm ⊢
    refine h.step0 h4 h2 (F:=λs => { s with send:=s.send+Cs.num body 0 }) (s':={ s with from_:=s.from_+(Cs.num body 0:Nat) }) (λ_=>rfl) rfl h5 ?_ ?_ rfl rfl rfl rfl { h.sc with } rfl
    ·exact { h6 with fr:=by dsimp only;rw[h6.fr];omega,dead:=λh1=>absurd h1 (by dsimp only;rw[hre];simp) }
    ·show (λk=>if k=s.id then _ else d.str k)=_
     rw[h6.id]
variable {d:Ds} {c:Cs}
theorem Sim.stepN(h:Sim d c){n i:Nat}(hi:al c.l n=some i)(hnow:c.now=n){F:St->St}(hF:∀ t,(F t).id=t.id){s':DS}(hc:(F (vl c.l n)).coming=false)(hs:SR c.client n s' (F (vl c.l n)))
  {d':Ds} {c':Cs} (hd:d'.str=λk=>if k=n then some s' else d.str k) (hl:c'.l=c.l.modify i F) (hr:d'.ring=Cs.ringOf d.ring n s'.waits) (hr':c'.ring=Cs.ringOf c.ring n s'.waits) (hsc:zdv d' c') (hcl:c'.client=c.client):Sim d' c':=by
 refine⟨hsc,by rw[hr,hr',h.ring],by rw[hr];exact zii _ _ _ h.rn,λk => ?_,λk => ?_⟩
 ·rw[hr,hd,zjz];dsimp only;by_cases e:k=n
  ·rw[if_pos e];constructor
   ·rintro (h1|h1)
    ·exact absurd e h1.1
    ·exact⟨s',rfl,h1.2⟩
   ·rintro ⟨s,h1,h2⟩;injection h1 with h1
    subst h1;exact .inr ⟨e,h2⟩
  ·rw[if_neg e,<-h.wr k];constructor
   ·rintro (h1|h1)
    ·exact h1.2
    ·exact absurd h1.1 e
   ·exact λh1 => .inl ⟨e,h1⟩
 ·rw[hl,zlo c.l n i F hF hi k,hd,hcl];by_cases e:k=n
  ·rw[if_pos e];dsimp only;rw[hc,if_pos e];simp only[Bool.false_eq_true,if_false];rw[e];exact⟨s',rfl,hs⟩
  ·rw[if_neg e];simp only[if_neg e]
   have:=h.str k
   cases hg:gl c.l k with
   | none=>rw[hg] at this;exact this
   | some t =>
    rw[hg] at this;dsimp only at this ⊢;cases hcm:t.coming with
    | true =>
     rw[hcm] at this;have h2:c.now=k:=this.2;omega
    | false=>rw[hcm] at this;exact this
theorem Sim.joined{n i:Nat}{fin:Bool}{sofar:Bytes}(h:Sim { d with coming:=some (n,fin,sofar) } c)(hi:al c.l n=some i)(hv:vl c.l n = { id:=n,coming:=true })(ho:ownB c.client n=false)(hcnt:c.cnt false=d.tCount)(whole:Bool)(body:Bytes)(hz:(c.joined whole n body).2=0) :
  Sim (d.takeHeaders n fin whole sofar body) (c.joined whole n body).1:=by
 obtain⟨e1,e2,e3,e4⟩:c.now=n/\n≠0/\c.ends=fin/\c.block=sofar:=h.sc.com;have hw0:d.str n=none:=by
  have:=h.str n
  rw[(zcs c.l n i hi).2.1,<-zdg c.l n i hi,hv] at this;exact this.1
 unfold Cs.joined at hz ⊢;unfold Ds.takeHeaders;dsimp only at hz ⊢;rw[e4] at hz ⊢;by_cases h1:1000<(sofar++body).length
 ·rw[if_pos h1] at hz;cases hz
 rw[if_neg h1] at hz;rw[if_neg h1,if_neg h1];cases whole with
 | false =>
  rw[if_pos rfl,if_pos rfl];exact h.scal { h.sc with com:=⟨e1,e2,e3,rfl⟩ } rfl rfl rfl rfl rfl rfl
 | true =>
  rw[if_neg (by simp)] at hz;rw[if_neg (by simp),if_neg (by simp)];cases hu:unpacks (sofar++body) with
  | none=>rw[hu] at hz;cases hz
  | some hh =>
   dsimp only;have hat:(Cs.at? { c with block:=sofar++body } (n:Int)).getD 0=i:=by
    have:Cs.at? { c with block:=sofar++body } (n:Int)=some i:=by rw[zcw];exact hi
    rw[this];rfl
   have hcn:Cs.count { c with block:=sofar++body } false=d.tCount:=hcnt;have htm:d.tMost=c.told:=h.sc.tM;have hlv:d.leaving=c.leaving:=h.sc.lv;rw[hat];by_cases c2:(d.tMost:Int)<=d.tCount\/d.leaving=true
   ·have c2':(c.told:Int)<=Cs.count { c with block:=sofar++body } false\/c.leaving=true:=by rw[hcn,<-htm,<-hlv];exact c2
    rw[if_pos c2,if_pos c2']
    let G:St->St:=λs => { s with coming:=false }
    have hi':al (c.l.modify i G) n=some i:=by rw[zen c.l i G (λ_=>rfl)];exact hi
    have hv':vl (c.l.modify i G) n = { id:=n }:=by rw[zbo c.l n i G (λ_=>rfl) hi,if_pos rfl,hv]
    have e:Cs.mod { c with now:=0,block:=[] } i (λs => { s with coming:=false }) = { c with now:=0,block:=[],l:=c.l.modify i G }:=rfl
    show Sim _ (Cs.drops (Cs.mod { c with now:=0,block:=[] } i (λs => { s with coming:=false })) i 6)
    rw[e,znu _ (n:=n) hi',show vl ({ c with now:=0,block:=[],l:=c.l.modify i G }:Cs).l n = { id:=n } from hv'];have hs':SR c.client n (Ds.moved { Ds.begun n false with code:=6 } 5) { id:=n,reset:=true,code:=6 }:=by
     refine⟨rfl,ho.symm,rfl,rfl,rfl,rfl,rfl,rfl,λhx=>(by cases hx),λ_=>⟨by show 5<=5;omega,by show 5<=8;omega,⟨λhx => ?_,λhx => ?_⟩,λ_=>rfl,rfl,rfl,rfl,rfl⟩,rfl,λ_=>rfl⟩
     ·have:(5:Nat)=8:=hx
      omega
     ·have:(6:Nat)=0:=hx
      omega
    refine h.stepN (s':=Ds.moved { Ds.begun n false with code:=6 } 5) hi e1 (F:=λs => { s with coming:=false,unread:=[],reset:=true,head:=[],bytes:=[],ending:=false,code:=6 }) (λ_=>rfl) rfl (by rw[hv];exact hs') ?_ ?_ ?_ rfl ?_ rfl
    ·unfold Ds.refuse;dsimp only;rw[znt]
     show (Ds.breakHere _ _ _).str=_
     funext k
     show (if k=n then some _ else if k=n then _ else d.str k)=_
     split<;>rfl
    ·show (c.l.modify i _).modify i _=_
     rw[List.modify_modify_eq];rfl
    ·unfold Ds.refuse;dsimp only;rw[znt];rfl
    ·unfold Ds.refuse;dsimp only;rw[znt];refine { h.sc with com:=rfl,ctl:=?_,to:=?_ }
     ·show d.to_=((c.recv+0:Nat):Int)
      exact h.sc.to
     ·show c.control++(wfs 0 0).map Fr.enc=d.ctl.map _
      rw[zis,if_neg (by omega),List.append_nil];exact h.sc.ctl
   ·have c2':¬ ((c.told:Int)<=Cs.count { c with block:=sofar++body } false\/c.leaving=true):=by rw[hcn,<-htm,<-hlv];exact c2
    rw[if_neg c2,if_neg c2']
    let F:St->St:=λs => { s with coming:=false,headers:=hh }
    have hs':SR c.client n { Ds.begun n false with headers:=hh } { id:=n,headers:=hh } :=
     ⟨rfl,ho.symm,rfl,rfl,rfl,rfl,rfl,rfl,λ_=>⟨rfl,rfl,rfl⟩,λhx=>(by cases hx),rfl,λhx=>by rw[ho] at hx;cases hx⟩
    have hw:({ Ds.begun n false with headers:=hh }:DS).waits=false:=rfl;have hnr:n ∉ d.ring:=λhx=>by
     obtain⟨s,hs,-⟩:=(h.wr n).1 hx
     have:d.str n=some s:=hs
     rw[hw0] at this;cases this
    have hrr:Cs.ringOf d.ring n false=d.ring:=zmg _ _ _ ⟨λhx=>absurd hx hnr,λhx=>by cases hx⟩;have key:Sim ((({ d with coming:=none }:Ds).keep false n).setS n { Ds.begun n false with headers:=hh }) { c with now:=0,block:=[],l:=c.l.modify i F }:=by
     refine h.stepN (s':={ Ds.begun n false with headers:=hh }) hi e1 (F:=F) (λ_=>rfl) rfl (by rw[hv];exact hs') ?_ rfl ?_ ?_ { h.sc with com:=rfl } rfl
     ·funext k
      show (if k=n then some _ else if k=n then _ else d.str k)=_
      split<;>rfl
     ·show d.ring=Cs.ringOf d.ring n false
      rw[hrr]
     ·show c.ring=Cs.ringOf c.ring n false
      have:d.ring=c.ring:=h.ring
      rw[<-this,hrr]
    have key1:=key.tell 1 n 0;have ec:Cs.ev (Cs.mod (Cs.mod { c with now:=0,block:=[] } i λs => { s with coming:=false }) i λs => { s with headers:=hh }) 1 n 0=Cs.ev { c with now:=0,block:=[],l:=c.l.modify i F } 1 n 0:=by rw[zmv];rfl
    show Sim _ (if c.ends=true then ((Cs.mod (Cs.ev (Cs.mod (Cs.mod { c with now:=0,block:=[] } i λs => { s with coming:=false }) i λs => { s with headers:=hh }) 1 n 0) i λs => { s with theirs:=true }).ev 2 n 0,0) else (Cs.ev (Cs.mod (Cs.mod { c with now:=0,block:=[] } i λs => { s with coming:=false }) i λs => { s with headers:=hh }) 1 n 0,0)).1
    rw[ec];unfold Ds.accept;dsimp only;cases fin with
    | false=>rw[if_neg Bool.false_ne_true,if_neg (by rw[e3];simp)];exact key1
    | true =>
     rw[if_pos (rfl:true=true),if_pos e3];have hi':al (c.l.modify i F) n=some i:=by rw[zen c.l i F (λ_=>rfl)];exact hi
     have hv':vl (c.l.modify i F) n = { id:=n,headers:=hh }:=by rw[zbo c.l n i F (λ_=>rfl) hi,if_pos rfl,hv]
     exact(key1.endThere (n:=n) (i:=i) (s:={ Ds.begun n false with headers:=hh }) hi' (by show (vl (c.l.modify i F) n).coming=false;rw[hv']) (by show (if n=n then some _ else _)=_;rw[if_pos rfl]) (by show SR c.client n _ (vl (c.l.modify i F) n);rw[hv'];exact hs') (by show (vl (c.l.modify i F) n).reset=false;rw[hv']) (by show (vl (c.l.modify i F) n).theirs=false;rw[hv'])).tell 2 n 0
def ComOk(c:Cs):Prop:=c.now≠0->hl c.l c.now/\vl c.l c.now = { id:=c.now,coming:=true }/\ownB c.client c.now=false
theorem Sim.com_none(h:Sim d c):d.coming=none↔c.now=0:=by
 have:=h.sc.com
 cases hc:d.coming with
 | none=>rw[hc] at this;exact⟨λ_=>this,λ_=>rfl⟩
 | some x =>
  rw[hc] at this;obtain⟨a,b,-⟩:=this;exact⟨λe=>(by cases e),λe=>absurd (a.symm.trans e) b⟩
theorem Sim.doOpen(h:Sim d c)(hids:Ids c)(h0:c.now=0)(hcnt:c.cnt false=d.tCount)(fin whole:Bool)(id:Nat)(body:Bytes)(hz:(c.blocks 1 fin whole id body).2=0):Sim (d.doOpen fin whole id body) (c.blocks 1 fin whole id body).1:=by
 unfold Cs.blocks at hz ⊢;rw[if_neg (by omega)] at hz ⊢;by_cases hb:id=0\/c.owns id=true\/id<=c.peer
 ·rw[if_pos hb] at hz;cases hz
 rw[if_neg hb] at hz ⊢;have b1:id≠0:=λe=>hb (.inl e);have b2:ownB c.client id=false:=by
  cases hx:ownB c.client id with
  | false=>rfl
  | true=>exact absurd (.inr (.inl hx)) hb
 have b3:c.peer<id:=by
  by_cases hx:id<=c.peer
  ·exact absurd (.inr (.inr hx)) hb
  ·omega
 have hnl:¬ hl c.l id:=λhx=>by
  have:=(hids id hx).2
  rw[b2] at this
  have:id<=c.peer:=by simpa using this
  omega
 unfold Ds.doOpen;rw[if_pos ⟨by rw[zst d c h.sc.cl id,if_pos (by omega),b2],by rw[h.sc.tL];exact b3⟩];have hgn:gl c.l id=none:=by
  unfold hl at hnl;cases hg:gl c.l id with
  | none=>rfl
  | some t=>rw[hg] at hnl;exact absurd rfl hnl
 have hsn:d.str id=none:=by
  have:=h.str id
  rw[hgn] at this;exact this
 have hS:Sim { ({ d with tLast:=id }:Ds) with coming:=some (id,fin,[]) } (c.begins fin id):=by
  refine⟨{ h.sc with tL:=rfl,com:=⟨rfl,b1,rfl,rfl⟩ },h.ring,h.rn,h.wr,λk => ?_⟩
  show match gl (c.l++[({ id:=id,coming:=true }:St)]) k with
   | none=>d.str k=none
   | some t=>if t.coming then d.str k=none/\id=k else ∃ s,d.str k=some s/\SR c.client k s t
  rw[zlp c.l { id:=id,coming:=true } hnl k];by_cases e:k=id
  ·rw[if_pos e];subst e;exact⟨hsn,rfl⟩
  ·rw[if_neg e]
   have:=h.str k
   cases hg:gl c.l k with
   | none=>rw[hg] at this;exact this
   | some t =>
    rw[hg] at this;dsimp only at this ⊢;cases hcm:t.coming with
    | false=>rw[hcm] at this;exact this
    | true =>
     rw[hcm] at this;have h2:c.now=k:=this.2;have hk:hl c.l k:=by unfold hl;rw[hg];rfl
     have:=(hids k hk).1
     omega
 exact hS.joined (i:=c.l.length) (zzbhq c.l { id:=id,coming:=true } hnl) (by show vl (c.l++[_]) id=_;rw[zjn c.l { id:=id,coming:=true } hnl,if_pos rfl]) b2 hcnt whole body hz
theorem Sim.doMore(h:Sim d c)(hco:ComOk c)(h0:c.now≠0)(hcnt:c.cnt false=d.tCount)(whole:Bool)(body:Bytes)(hz:(c.joined whole c.now body).2=0):Sim (d.doMore whole body) (c.joined whole c.now body).1:=by
 obtain⟨k1,k2,k3⟩:=hco h0;obtain⟨i,hi⟩:=zdq c.l c.now k1;unfold Ds.doMore;cases hc:d.coming with
 | none=>exact absurd (h.com_none.1 hc) h0
 | some x =>
  obtain⟨n,fin,b⟩:=x;have hcm:=h.sc.com;rw[hc] at hcm;have hn:c.now=n:=hcm.1;rw[hn] at hi k2 k3 hz ⊢;dsimp only;have hS:Sim { d with coming:=some (n,fin,b) } c:=by rw[<-hc];exact h
  exact hS.joined hi k2 k3 hcnt whole body hz
theorem Sim.done(h:Sim d c)(hids:Ids c)(hco:ComOk c)(hcnt:c.cnt false=d.tCount)(kind flags id:Nat)(body:Bytes)(hz:(c.done kind flags id body).2=0):Sim (d.done kind flags id body) (c.done kind flags id body).1:=by
 unfold Cs.done at hz ⊢;dsimp only at hz ⊢;by_cases hoff:0<c.now/\(kind≠2\/id≠c.now)
 ·rw[if_pos hoff] at hz;cases hz
 rw[if_neg hoff] at hz ⊢;unfold Ds.done;dsimp only;have hoff':d.off kind id=false:=by
  unfold Ds.off;cases hc:d.coming with
  | none=>rfl
  | some x =>
   obtain⟨n,fin,b⟩:=x;have hcm:=h.sc.com;rw[hc] at hcm;obtain⟨hn,hn0,-⟩:=hcm;dsimp only at hn hn0 ⊢
   have:kind=2/\id=n:=by omega
   simp[this.1,this.2]
 rw[if_neg (by rw[hoff'];simp)];by_cases h7:7<kind
 ·rw[if_pos h7,if_neg (by omega),if_neg (by omega),if_neg (by omega),if_neg (by omega),if_neg (by omega),if_neg (by omega),if_neg (by omega),if_neg (by omega)];exact h
 rw[if_neg h7] at hz ⊢;by_cases q1:(kind=0\/kind=3)/\c.known (id:Int)=false
 ·rw[if_pos q1] at hz;cases hz
 rw[if_neg q1] at hz ⊢;by_cases q2:(kind=4\/kind=5\/kind=6)/\id≠0
 ·rw[if_pos q2] at hz;cases hz
 rw[if_neg q2] at hz ⊢;by_cases q3:kind=7/\id≠0/\c.known (id:Int)=false
 ·rw[if_pos q3] at hz;cases hz
 rw[if_neg q3] at hz ⊢;by_cases q4:Cs.offSize kind (flags%2 == 1) body.length=true
 ·rw[if_pos q4] at hz;cases hz
 rw[if_neg q4] at hz ⊢;have kn:kind=0\/kind=3->c.known (id:Int)=true:=λhk=>by
  cases hx:c.known (id:Int) with
  | true=>rfl
  | false=>exact absurd ⟨hk,hx⟩ q1
 by_cases k0:kind=0
 ·subst k0;rw[if_pos rfl] at hz;rw[if_pos rfl,if_pos rfl];exact h.doData hids (by omega) _ id body (kn (.inl rfl)) hz
 rw[if_neg k0] at hz;rw[if_neg k0,if_neg k0];by_cases k1:kind=1
 ·subst k1;rw[if_pos (.inl rfl)] at hz;rw[if_pos (rfl:1=1),if_pos (.inl rfl)];exact h.doOpen hids (by omega) hcnt _ _ id body hz
 rw[if_neg k1];by_cases k2:kind=2
 ·subst k2;rw[if_pos (.inr rfl)] at hz;rw[if_pos (rfl:2=2),if_pos (.inr rfl)];unfold Cs.blocks at hz ⊢;rw[if_pos rfl] at hz ⊢;by_cases hn:c.now=0
  ·rw[if_pos hn] at hz;cases hz
  rw[if_neg hn] at hz ⊢;have hid:id=c.now:=by omega
  rw[hid] at hz ⊢;exact h.doMore hco hn hcnt _ body hz
 have k12:¬ (kind=1\/kind=2):=by omega
 rw[if_neg k12] at hz;rw[if_neg k12,if_neg k2];have hn0:c.now=0:=by omega
 by_cases k3:kind=3
 ·subst k3;rw[if_pos rfl,if_pos rfl];exact h.doReset hids hn0 id body (kn (.inr rfl)) (by simpa[Cs.offSize,Cs.wants] using q4)
 rw[if_neg k3] at hz;rw[if_neg k3,if_neg k3];by_cases k4:kind=4
 ·subst k4;rw[if_pos rfl] at hz;rw[if_pos rfl,if_pos rfl];have hid:id=0:=by
   by_cases hx:id=0
   ·exact hx
   ·exact absurd ⟨.inl rfl,hx⟩ q2
  unfold Ds.doSettings;unfold Cs.settings at hz ⊢;rw[if_neg (by omega)];cases hf:(flags%2 == 1) with
  | true =>
   rw[hf] at q4;have hb:body.length=0:=by simpa[Cs.offSize,Cs.wants] using q4
   rw[if_pos rfl,if_pos rfl,if_neg (by omega)];exact h
  | false =>
   rw[hf] at q4 hz;have hb:body.length=1:=by simpa[Cs.offSize,Cs.wants] using q4
   rw[if_neg Bool.false_ne_true] at hz;have hb1:¬ body.length≠1:=by omega
   rw[if_neg Bool.false_ne_true,if_neg Bool.false_ne_true,if_neg hb1];by_cases hx:6<(body.getD 0 0).toNat
   ·rw[if_pos hx] at hz;cases hz
   rw[if_neg hx,if_neg hx];have h2:Sim { d with mMost:=(body.getD 0 0).toNat } { c with limit:=(body.getD 0 0).toNat }:=h.scal { h.sc with mM:=rfl } rfl rfl rfl rfl rfl rfl;exact h2.lay 4 1 0 []
 rw[if_neg k4] at hz;rw[if_neg k4,if_neg k4];by_cases k5:kind=5
 ·subst k5;rw[if_pos rfl,if_pos rfl];have hid:id=0:=by
   by_cases hx:id=0
   ·exact hx
   ·exact absurd ⟨.inr (.inl rfl),hx⟩ q2
  unfold Ds.doPing;have hb:body.length=2:=by simpa[Cs.offSize,Cs.wants] using q4
  rw[if_neg (by omega),if_neg (by omega)];cases hf:(flags%2 == 1) with
  | true=>exact h.tell 4 0 _
  | false=>exact h.lay 5 1 0 body
 rw[if_neg k5] at hz;rw[if_neg k5,if_neg k5];by_cases k6:kind=6
 ·subst k6;rw[if_pos rfl,if_pos rfl];have hid:id=0:=by
   by_cases hx:id=0
   ·exact hx
   ·exact absurd ⟨.inr (.inr rfl),hx⟩ q2
  unfold Ds.doAway;have hb:body.length=3:=by simpa[Cs.offSize,Cs.wants] using q4
  rw[if_neg (by omega),if_neg (by omega)];have h2:Sim { d with peerLeaves:=true } { c with left:=true }:=h.scal { h.sc with pl:=rfl } rfl rfl rfl rfl rfl rfl;exact h2.tell 5 _ _
 rw[if_neg k6] at hz;rw[if_neg k6,if_neg k6];have k7:kind=7:=by omega
 subst k7;rw[if_pos rfl];have hb:body.length=2:=by simpa[Cs.offSize,Cs.wants] using q4
 refine h.doWindow hids hn0 id body ?_ hb hz;by_cases hx:id=0
 ·exact .inl hx
 ·right;cases hk:c.known (id:Int) with
  | true=>rfl
  | false=>exact absurd ⟨rfl,hx,hk⟩ q3
variable {d:Ds} {c:Cs}
theorem zzbcm(id:Nat):∀ (fuel kind:Nat),Cs.headsGo id fuel kind []=[]
 | 0,_=>rfl
 | fuel+1,kind=>by unfold Cs.headsGo;rfl
theorem zus(id:Nat):∀ (fuel kind:Nat) (b:Bytes),b≠[]->b.length<=fuel->Ds.hframes id fuel kind b=Cs.headsGo id fuel kind b
 | 0,kind,b,hb,hl=>absurd (List.eq_nil_of_length_eq_zero (by omega)) hb
 | fuel+1,kind,b,hb,hl=>by
  have hp:=List.length_pos_iff.2 hb;unfold Ds.hframes Cs.headsGo;rw[if_neg (by omega:¬ b.length=0)];by_cases h64:64<b.length
  ·rw[if_pos h64,if_neg (by omega),zus id fuel 2 (b.drop 64) (λe=>by
    have:=congrArg List.length e
    rw[List.length_drop] at this;simp at this;omega) (by rw[List.length_drop];omega)]
  ·rw[if_neg h64,if_pos (by omega),List.take_of_length_le (by omega),List.drop_of_length_le (by omega),zzbcm,List.append_nil]
theorem zut(id:Nat)(b:Bytes)(hb:b≠[]):Ds.headerFrames id b=Cs.heads id b:=zus id b.length 1 b hb (Nat.le_refl _)
theorem zop{α:Type}(p q:α->Bool):∀ (l:List α),(∀ x∈l,p x=q x)->l.findIdx? p=l.findIdx? q
 | [],_=>rfl
 | x::l,h=>by rw[List.findIdx?_cons,List.findIdx?_cons,h x (by simp),zop p q l λy hy=>h y (by simp[hy])]
theorem Sim.ofRing(h:Sim d c){n:Nat}(hn:n∈d.ring):∃ i s,al c.l n=some i/\d.str n=some s/\s.waits=true/\(vl c.l n).coming=false/\SR c.client n s (vl c.l n):=by
 obtain⟨s,hs,hw⟩:=(h.wr n).1 hn
 have:=h.str n
 cases hi:al c.l n with
 | none =>
  rw[zhu c.l n hi,hs] at this;cases this
 | some i =>
  rw[(zcs c.l n i hi).2.1,<-zdg c.l n i hi,hs] at this;dsimp only at this;cases hc:(vl c.l n).coming with
  | true=>rw[hc] at this;exact absurd this.1 (by simp)
  | false =>
   rw[hc] at this;obtain⟨s2,e,hr⟩:∃ s2,some s=some s2/\SR c.client n s2 (vl c.l n):=by simpa using this
   injection e with e
   subst e;exact⟨i,s,rfl,hs,hw,rfl,hr⟩
theorem Sim.can(h:Sim d c){n i:Nat}{s:DS}(hi:al c.l n=some i)(hw:s.waits=true)(hr:SR c.client n s (vl c.l n)):d.canGo s=c.can i:=by
 unfold Ds.canGo Cs.can Cs.data;rw[zca c n i hi];by_cases hb:s.block=[]
 ·have hh:¬ 0<(vl c.l n).head.length:=λe=>hr.head_pos.1 e hb;by_cases hdt:s.data.length=0
  ·have:(0<(vl c.l n).code)\/((vl c.l n).ending=true/\(vl c.l n).mine=false):=by
    rw[hr.waits] at hw;unfold St.waits at hw;rw[hr.da] at hw;simp only[Bool.or_eq_true,decide_eq_true_eq,Bool.and_eq_true,Bool.not_eq_true'] at hw;rcases hw with ((e | e) | e) | e
    ·exact absurd e hh
    ·exact absurd e (by omega)
    ·exact .inr e
    ·exact .inl e
   rw[hr.da];rcases this with e | e
   ·simp[hdt,e]
   ·simp[hdt,e.1,e.2]
  ·have hre:(vl c.l n).reset=false:=by
    cases hx:(vl c.l n).reset with
    | false=>rfl
    | true =>
     have:=(hr.dead hx).2.2.2.2.2.1
     rw[this] at hdt;exact absurd rfl hdt
   have hcd:=(hr.live hre).2.1;rw[hr.da,hcd,hr.fr,h.sc.fr];have e1:decide (0<min ((vl c.l n).send:Int) (c.send:Int))=decide (0<min (min (min s.data.length 64) c.send) (vl c.l n).send):=decide_eq_decide.2 (by omega);rw[e1];simp[hb,hh,hdt]
 ·have hh:0<(vl c.l n).head.length:=hr.head_pos.2 hb;simp[hb,hh]
theorem Sim.ready(h:Sim d c):d.ready=c.ready:=by
 unfold Ds.ready Cs.ready;rw[<-h.ring];refine zop _ _ _ λn hn => ?_;obtain⟨i,s,hi,hs,hw,-,hr⟩:=h.ofRing hn;rw[zcw,hi];dsimp only
 have:d.stOf n=s:=by unfold Ds.stOf;rw[hs];rfl
 rw[this];exact h.can hi hw hr
theorem zzbid(ring:List Nat)(k n:Nat)(hk:ring[k]? = some n)(hn:ring.Nodup)(w:Bool):Cs.ringOf (ring.eraseIdx k) n w=(if w then (ring.eraseIdx k)++[n] else ring.eraseIdx k)/\(Cs.ringOf (ring.eraseIdx k) n w).Nodup /\ ∀ x,x∈Cs.ringOf (ring.eraseIdx k) n w↔(x≠n/\x∈ring)\/(x=n/\w=true):=by
 have hmem:∀ x,x∈ring.eraseIdx k↔x≠n/\x∈ring:=by
  intro x;rw[List.mem_eraseIdx_iff_getElem?];constructor
  ·rintro ⟨j,hj,hx⟩;refine⟨λe => ?_,List.mem_of_getElem? hx⟩;subst e;have hj2:=(List.getElem?_eq_some_iff.1 hx).1;have hk2:=(List.getElem?_eq_some_iff.1 hk).1;exact hj ((List.getElem?_inj hj2 hn).1 (hx.trans hk.symm))
  ·rintro ⟨hx,hm⟩;obtain⟨j,hj,e⟩:=List.getElem_of_mem hm;have hx2:ring[j]? = some x:=by rw[List.getElem?_eq_getElem hj,e]
   exact⟨j,λej=>hx (by rw[ej,hk] at hx2;injection hx2 with hx2;exact hx2.symm),hx2⟩
 have hno:n ∉ ring.eraseIdx k:=λhx=>((hmem n).1 hx).1 rfl;have hnd:(ring.eraseIdx k).Nodup:=hn.sublist (List.eraseIdx_sublist ring k);refine⟨?_,zii _ _ _ hnd,λx => ?_⟩
 ·cases w
  ·exact zmg _ _ _ ⟨λhx=>absurd hx hno,λhx=>by cases hx⟩
  ·rw[zgz,if_neg (by simpa using hno)];rfl
 ·rw[zjz,hmem];constructor
  ·rintro (h1|h1)
   ·exact .inl h1.2
   ·exact .inr h1
  ·rintro (h1|h1)
   ·exact .inl ⟨h1.1,h1⟩
   ·exact .inr h1
theorem zzbcn(d:Ds)(k:Nat)(s:DS):d.leave k s = { d with ring:=if s.waits then Cs.ringOf (d.ring.eraseIdx k) s.id true else d.ring.eraseIdx k }:=by
 unfold Ds.leave;dsimp only;cases s.waits
 ·rfl
 ·rw[if_pos rfl,if_pos rfl,zhk]
theorem Sim.turnOf(h:Sim d c){n i k:Nat}{s:DS}(hk:d.ring[k]? = some n)(hi:al c.l n=some i)(hs:d.str n=some s)(hw:s.waits=true)(hc:(vl c.l n).coming=false)(hr:SR c.client n s (vl c.l n))(hcan:d.canGo s=true)(hme:(vl c.l n).mine=true->(vl c.l n).bytes=[])(room:Int) :
  (d.turn s room).1=(c.turn i room).1/\((d.turn s room).1.length≠0->Sim ((d.turn s room).2.1.leave k (d.turn s room).2.2) (Cs.rings { (c.turn i room).2 with ring:=c.ring.eraseIdx k } i)):=by
 have hidn:=hr.id;subst hidn;have fin:∀ (F:St->St) (s':DS) (d1:Ds) (c1:Cs),(∀ t,(F t).id=t.id)->(F (vl c.l s.id)).coming=false->SR c.client s.id s' (F (vl c.l s.id))->d1.str=(λx=>if x=s.id then some s' else d.str x)->d1.ring=d.ring->c1.l=c.l.modify i F->c1.now=c.now->c1.client=c.client->zdv d1 c1 ->
   Sim (d1.leave k s') (Cs.rings { c1 with ring:=c.ring.eraseIdx k } i):=by
  intro F s' d1 c1 hF hcm hsr hd hdr hl hn hcl hsc;obtain⟨r1,r2,r3⟩:=zzbid d.ring k s.id hk h.rn s'.waits;have hst:Cs.st { c1 with ring:=c.ring.eraseIdx k } i=F (vl c.l s.id):=by
   have h1:Cs.st { c1 with ring:=c.ring.eraseIdx k } i=vl (c.l.modify i F) s.id:=by
    show c1.l.getD i { id:=0 }=_
    rw[hl];exact(zdg (c.l.modify i F) s.id i (by rw[zen _ _ _ hF];exact hi)).symm
   rw[h1,zbo c.l s.id i F hF hi,if_pos rfl]
  rw[zzbcn];have hring:(if s'.waits then Cs.ringOf (d1.ring.eraseIdx k) s'.id true else d1.ring.eraseIdx k)=Cs.ringOf (d.ring.eraseIdx k) s.id s'.waits:=by
   rw[hdr,hsr.id];cases hx:s'.waits
   ·rw[hx] at r1;rw[r1];rfl
   ·rfl
  unfold Cs.rings;rw[hst,hF,zgt,<-hsr.waits];refine h.stepR hi hF hcm hsr hd hl ?_ ?_ ?_ hn { hsc with } hcl
  ·show (if s'.waits then _ else _)=Cs.ringOf (c.ring.eraseIdx k) s.id s'.waits
   rw[hring,h.ring]
  ·show (if s'.waits then Cs.ringOf (d1.ring.eraseIdx k) s'.id true else d1.ring.eraseIdx k).Nodup
   rw[hring];exact r2
  ·intro x
   show x∈(if s'.waits then Cs.ringOf (d1.ring.eraseIdx k) s'.id true else d1.ring.eraseIdx k)↔_
   rw[hring];exact r3 x
 unfold Ds.turn Cs.turn;dsimp only;rw[zca c s.id i hi];by_cases hb:s.block≠[]
 ·rw[if_pos hb,if_pos (hr.head_pos.2 hb)];have he:(vl c.l s.id).head=Cs.heads s.id s.block:=by rw[hr.he,if_neg hb]
  rw[zut s.id s.block hb,he];have hre:(vl c.l s.id).reset=false:=by
   cases hx:(vl c.l s.id).reset with
   | false=>rfl
   | true=>exact absurd (hr.dead hx).2.2.2.2.1 hb
  by_cases hroom:room<(Cs.heads s.id s.block).length
  ·rw[if_pos hroom,if_neg (by omega)];exact⟨rfl,λe=>absurd rfl e⟩
  ·rw[if_neg hroom,if_pos (by omega)];refine⟨rfl,λ_ => ?_⟩;refine fin (λt => { t with head:=[] }) { s with block:=[] } (d.setS s.id { s with block:=[] }) (c.mod i λt => { t with head:=[] }) (λ_=>rfl) hc ?_ rfl rfl rfl rfl rfl { h.sc with };exact { hr with he:=rfl,dead:=λh1=>absurd h1 (by dsimp only;rw[hre];simp) }
 have hb':s.block=[]:=Classical.not_not.1 hb;rw[if_neg hb,if_neg (λe=>hb (hr.head_pos.1 e)),hr.tells];by_cases hcd:0<(vl c.l s.id).code
 ·rw[if_pos (by simpa using hcd),if_pos hcd];have hre:(vl c.l s.id).reset=true:=by
   cases hx:(vl c.l s.id).reset with
   | true=>rfl
   | false =>
    have:=(hr.live hx).2.1
    omega
  obtain⟨a1,a2,a3,a4,a5,a6,a7,a8⟩:=hr.dead hre;have h8:s.state≠8:=λe=>by have:=a3.1 e;omega
  by_cases hroom:room<7
  ·rw[if_pos hroom,if_neg (by omega)];exact⟨rfl,λe=>absurd rfl e⟩
  ·rw[if_neg hroom,if_pos (by omega),zgt,<-a4 h8];refine⟨rfl,λ_ => ?_⟩;obtain⟨m1,m2⟩:=zmx d s 8;have hkp:s.kept=true:=by rw[hr.kept];simp[h8]
   refine fin (λt => { t with code:=0 }) (Ds.moved s 8) (d.move s 8) (c.mod i λt => { t with code:=0 }) (λ_=>rfl) hc ?_ (by rw[m1]) m2 rfl rfl rfl { h.sc.move s 8 with };refine⟨hr.id,hr.mine,hr.hd,hr.fr,hr.to,hr.un,hr.da,hr.he,λhx => ?_,λ_=>⟨by show 5<=8;omega,Nat.le_refl _,⟨λ_=>rfl,λ_=>rfl⟩,λe=>absurd rfl e,a5,a6,a7,a8⟩,?_,hr.oh⟩
   ·have:(vl c.l s.id).reset=false:=hx
    rw[hre] at this;cases this
   ·show (s.kept && !((8:Nat) == 8 && s.headers.isEmpty))=_
    rw[hkp];rfl
 rw[if_neg (by simpa using hcd),if_neg hcd];have hre:(vl c.l s.id).reset=false:=by
  cases hx:(vl c.l s.id).reset with
  | false=>rfl
  | true =>
   obtain⟨a1,a2,a3,a4,a5,a6,a7,a8⟩:=hr.dead hx;exfalso;rw[hr.waits] at hw;unfold St.waits at hw;rw[hr.da,a6,a8] at hw
   have:¬ 0<(vl c.l s.id).head.length:=λe=>hb (hr.head_pos.1 e)
   simp[this,hcd] at hw
 obtain⟨a1,a2,a3⟩:=hr.live hre;rw[hr.da];have hkp:s.kept=true:=by
  rw[hr.kept];have h4:s.state≠8:=by rw[a1];cases (vl c.l s.id).mine<;>cases (vl c.l s.id).theirs<;>simp
  simp[h4]
 by_cases hd0:0<s.data.length
 ·
  rw[if_pos hd0];have hwin:0<(vl c.l s.id).send/\0<c.send:=by
   unfold Ds.canGo at hcan;rw[hr.fr,h.sc.fr,Bool.or_eq_true,Bool.or_eq_true] at hcan;rcases hcan with (e | e) | e
   ·simp[hb'] at e
   ·have:=of_decide_eq_true e
    omega
   ·have:=of_decide_eq_true e
    omega
  have hm1:min s.data.length 1=1:=by omega
  rw[hm1];have hdata:c.data i=min (min (min s.data.length 64) c.send) (vl c.l s.id).send:=by unfold Cs.data;rw[zca c s.id i hi,hr.da]
  have hmine:(vl c.l s.id).mine=false:=by
   cases hx:(vl c.l s.id).mine with
   | false=>rfl
   | true =>
    have:=hme hx
    rw[hr.da] at this;rw[this] at hd0;exact absurd hd0 (by simp)
  by_cases hroom:room<7
  ·have q1:room<6+((1:Nat):Int):=by omega
   have q2:min (c.data i:Int) (room-6)<1:=by omega
   rw[if_pos q1,if_pos q2];exact⟨rfl,λe=>absurd rfl e⟩
  ·have q1:¬ room<6+((1:Nat):Int):=by omega
   have q2:¬ min (c.data i:Int) (room-6)<1:=by rw[hdata];omega
   rw[if_neg q1,if_neg q2];have en:d.dataN s room=min (c.data i:Int) (room-6):=by unfold Ds.dataN;rw[hdata,hr.fr,h.sc.fr];omega
   rw[en];obtain⟨m,hm⟩:∃ m:Nat,min (c.data i:Int) (room-6)=(m:Int):=⟨(min (c.data i:Int) (room-6)).toNat,by rw[hdata];omega⟩;have hmle:m<=s.data.length/\m<=(vl c.l s.id).send/\m<=c.send/\1<=m:=by rw[hdata] at hm;omega
   rw[hm,Int.toNat_natCast,zgt];have hlen:(s.data.drop m).length=0↔m=s.data.length:=by rw[List.length_drop];omega
   have sc1:zdv ({ d with from_:=d.from_-(m:Int) }) { c with send:=c.send-m }:={ h.sc with fr:=by show d.from_-(m:Int)=((c.send-m:Nat):Int);rw[h.sc.fr];omega };by_cases hlast:(s.data.drop m).length=0/\s.ends=true
   ·have hl2:((vl c.l s.id).ending && decide (m=s.data.length))=true:=by rw[a3,hlast.2];simpa using hlen.1 hlast.1
    rw[if_pos hlast,hl2];refine⟨rfl,λ_ => ?_⟩;have hst:Ds.hereTo { s with data:=s.data.drop m,from_:=s.from_-(m:Int) }=2+(if (vl c.l s.id).theirs then 2 else 0):=by
     unfold Ds.hereTo
     show (if s.state=3 then 4 else 2)=_
     rw[a1,hmine];cases (vl c.l s.id).theirs<;>rfl
    have h8:Ds.hereTo { s with data:=s.data.drop m,from_:=s.from_-(m:Int) }≠8:=by rw[hst];split<;>omega
    obtain⟨m1,m2⟩:=zmx (({ d with from_:=d.from_-(m:Int) }:Ds).setS s.id { s with data:=s.data.drop m,from_:=s.from_-(m:Int) }) { s with data:=s.data.drop m,from_:=s.from_-(m:Int) } (Ds.hereTo { s with data:=s.data.drop m,from_:=s.from_-(m:Int) });have sc2:zdv (({ d with from_:=d.from_-(m:Int) }:Ds).setS s.id { s with data:=s.data.drop m,from_:=s.from_-(m:Int) }) { c with send:=c.send-m }:={ sc1 with };have sc3:=sc2.move { s with data:=s.data.drop m,from_:=s.from_-(m:Int) } (Ds.hereTo { s with data:=s.data.drop m,from_:=s.from_-(m:Int) });refine fin (λt => { t with mine:=t.mine || true,bytes:=t.bytes.drop m,send:=t.send-m }) (Ds.moved { s with data:=s.data.drop m,from_:=s.from_-(m:Int) } (Ds.hereTo { s with data:=s.data.drop m,from_:=s.from_-(m:Int) })) (Ds.move (({ d with from_:=d.from_-(m:Int) }:Ds).setS s.id { s with data:=s.data.drop m,from_:=s.from_-(m:Int) }) { s with data:=s.data.drop m,from_:=s.from_-(m:Int) } (Ds.hereTo { s with data:=s.data.drop m,from_:=s.from_-(m:Int) })) { (c.mod i λt => { t with mine:=t.mine || true,bytes:=t.bytes.drop m,send:=t.send-m }) with send:=c.send-m } (λ_=>rfl) hc ?_ ?_ m2 rfl rfl rfl { sc3 with }
    ·refine⟨hr.id,hr.mine,hr.hd,?_,hr.to,hr.un,?_,hr.he,λ_=>⟨?_,a2,a3⟩,λh1=>absurd h1 (by dsimp only;rw[hre];simp),?_,hr.oh⟩
     ·show s.from_-(m:Int)=(((vl c.l s.id).send-m:Nat):Int)
      rw[hr.fr];omega
     ·show (vl c.l s.id).bytes.drop m=_
      rw[hr.da];rfl
     ·show Ds.hereTo { s with data:=s.data.drop m,from_:=s.from_-(m:Int) }=1+(if ((vl c.l s.id).mine || true) then 1 else 0)+_
      rw[Bool.or_true,if_pos rfl];exact hst
     ·show (s.kept && !(Ds.hereTo { s with data:=s.data.drop m,from_:=s.from_-(m:Int) } == 8 && s.headers.isEmpty))=_
      rw[hkp];rfl
    ·rw[m1];funext x
     show (if x=s.id then _ else if x=s.id then _ else d.str x)=_
     split<;>rfl
   ·have hl2:((vl c.l s.id).ending && decide (m=s.data.length))=false:=by
     rw[a3];cases hx:s.ends with
     | false=>rfl
     | true =>
      have:m≠s.data.length:=λe=>hlast ⟨hlen.2 e,hx⟩
      simpa using this
    rw[if_neg hlast,hl2];refine⟨rfl,λ_ => ?_⟩;refine fin (λt => { t with mine:=t.mine || false,bytes:=t.bytes.drop m,send:=t.send-m }) { s with data:=s.data.drop m,from_:=s.from_-(m:Int) } (({ d with from_:=d.from_-(m:Int) }:Ds).setS s.id { s with data:=s.data.drop m,from_:=s.from_-(m:Int) }) { (c.mod i λt => { t with mine:=t.mine || false,bytes:=t.bytes.drop m,send:=t.send-m }) with send:=c.send-m } (λ_=>rfl) hc ?_ rfl rfl rfl rfl rfl { sc1 with };refine { hr with fr:=?_,da:=?_,live:=λ_=>⟨?_,a2,a3⟩,dead:=λh1=>absurd h1 (by dsimp only;rw[hre];simp) }
    ·show s.from_-(m:Int)=(((vl c.l s.id).send-m:Nat):Int)
     rw[hr.fr];omega
    ·show (vl c.l s.id).bytes.drop m=_
     rw[hr.da]
    ·show s.state=1+(if ((vl c.l s.id).mine || false) then 1 else 0)+_
     rw[Bool.or_false];exact a1
 ·
  rw[if_neg hd0];have hz:s.data=[]:=List.eq_nil_of_length_eq_zero (by omega);have hw2:s.ends=true/\(vl c.l s.id).mine=false:=by
   rw[hr.waits] at hw;unfold St.waits at hw
   have:¬ 0<(vl c.l s.id).head.length:=λe=>hb (hr.head_pos.1 e)
   rw[hr.da,hz,a3] at hw;simpa[this,hcd] using hw
  rw[hz];by_cases hroom:room<6
  ·rw[if_pos (by simpa using hroom),if_neg (by omega)];exact⟨rfl,λe=>absurd rfl e⟩
  ·have q6:(6:Int)<=room:=by omega
   rw[if_neg (by simpa using hroom),if_pos q6];have en:d.dataN s room=0:=by unfold Ds.dataN;rw[hz,hr.fr,h.sc.fr];simp only[List.length_nil];omega
   have e0:({ s with data:=List.drop (0:Int).toNat [],from_:=s.from_-0 }:DS)=s:=by
    have:s.from_-0=s.from_:=by omega
    rw[this]
    show ({ s with data:=[] }:DS)=s
    rw[<-hz]
   have e1:({ d with from_:=d.from_-0 }:Ds)=d:=by
    have:d.from_-0=d.from_:=by omega
    rw[this]
   rw[en,if_pos ⟨rfl,hw2.1⟩,e0,e1,zgt];refine⟨rfl,λ_ => ?_⟩;have hst:Ds.hereTo s=2+(if (vl c.l s.id).theirs then 2 else 0):=by unfold Ds.hereTo;rw[a1,hw2.2];cases (vl c.l s.id).theirs<;>rfl
   obtain⟨m1,m2⟩:=zmx (d.setS s.id s) s (Ds.hereTo s);have sc2:zdv (d.setS s.id s) c:={ h.sc with };have sc3:=sc2.move s (Ds.hereTo s);refine fin (λt => { t with mine:=true }) (Ds.moved s (Ds.hereTo s)) (Ds.move (d.setS s.id s) s (Ds.hereTo s)) (c.mod i λt => { t with mine:=true }) (λ_=>rfl) hc ?_ ?_ m2 rfl rfl rfl { sc3 with }
   ·refine⟨hr.id,hr.mine,hr.hd,hr.fr,hr.to,hr.un,hr.da,hr.he,λ_=>⟨?_,a2,a3⟩,λh1=>absurd h1 (by dsimp only;rw[hre];simp),?_,hr.oh⟩
    ·show Ds.hereTo s=1+(if true then 1 else 0)+_
     rw[if_pos rfl];exact hst
    ·show (s.kept && !(Ds.hereTo s == 8 && s.headers.isEmpty))=_
     rw[hkp];rfl
   ·rw[m1];funext x
    show (if x=s.id then _ else if x=s.id then _ else d.str x)=_
    split<;>rfl
theorem Sim.turned(h:Sim d c)(hme:∀ n,(vl c.l n).mine=true->(vl c.l n).bytes=[])(room:Int):(d.turned room=none/\c.turned room=none) \/ ∃ b d' c',d.turned room=some (b,d')/\c.turned room=some (b,c')/\Sim d' c':=by
 unfold Ds.turned Cs.turned;rw[h.ready];cases hk:c.ready with
 | none=>exact .inl ⟨rfl,rfl⟩
 | some k =>
  dsimp only;rw[Option.bind_some];have hk':=hk;rw[<-h.ready] at hk';unfold Ds.ready at hk';obtain⟨hlt,hp,-⟩:=List.findIdx?_eq_some_iff_getElem.1 hk';have hget:d.ring[k]? = some d.ring[k]:=List.getElem?_eq_getElem hlt;have hgD:d.ring.getD k 0=d.ring[k]:=by rw[List.getD_eq_getElem?_getD,hget];rfl
  generalize hn:d.ring[k]=n at *;have hmem:n∈d.ring:=List.mem_of_getElem? hget;obtain⟨i,s,hi,hs,hw,hc,hr⟩:=h.ofRing hmem;have hst:d.stOf n=s:=by unfold Ds.stOf;rw[hs];rfl
  rw[<-h.ring,hgD,zcw,hi,hst,Option.bind_some];rw[hst] at hp;obtain⟨t1,t2⟩:=h.turnOf hget hi hs hw hc hr hp (hme n) room;rw[<-t1];by_cases h0:(d.turn s room).1.length=0
  ·rw[if_pos h0,if_pos h0];exact .inl ⟨rfl,rfl⟩
  ·rw[if_neg h0,if_neg h0]
   have:=t2 h0
   rw[<-h.ring] at this;exact .inr ⟨_,_,_,rfl,rfl,this⟩
end Go.Proofs.YtoijpogadkogcaaGreat
