import Derived.BigQuiet
import Derived.Deep.AppendLies
import Derived.Deep.DeepCutAuto
import Derived.Deep.QuietTactic
import Derived.Deep.RegionHeld3
import Derived.Deep.RegionLaw
import Derived.Laws.Bits64b
import Derived.Laws.CopyRow
import Derived.Laws.MakeOwn
import Derived.Laws.OwnMore
import Derived.Lib.AppendZeros
import Derived.Lib.Mul64
import Derived.Maps.AppendAt
import Derived.OpenShut
import Derived.ProofKit
import Derived.Test.YtnamdihclpbdfaaGreatRows
import Derived.WalkKit
abbrev Go.Value.i (n:Int):Go.Value:=.int .i64 n
abbrev Go.Value.n0:Go.Value:=.slice none 0 0
abbrev Go.Value.o(g n c:Nat):Go.Value:=.slice (some ⟨g,0,none⟩) n c
abbrev Go.Value.po(g:Nat):Go.Value:=.pointer (some ⟨g,0,none⟩)
namespace Go.Proofs.YtnamdihclpbdfaaGreat
set_option linter.all false
open Go.Proofs.Tryz
theorem od{p:Prop}(h:p:=by omega):p:=h
theorem oe{p:Prop}(h:p:=by simp):p:=h
theorem ot{p:Prop}(h:p:=by decide):p:=h
theorem ov{p:Prop}(h:p:=by simp;omega):p:=h
theorem oA{p:Prop}(h:p:=by kernel_rfl):p:=h
theorem oB{p:Prop}(h:p:=by simp_all [okTs,okT,bD]):p:=h
theorem oE{p:Prop}(h:p:=by simp only[Ty.size,tysizes] at *;omega):p:=h
theorem oR{p:Prop}(h:p:=by assumption):p:=h
theorem oT{p:Prop}(h:p:=by simp[aW,Va.size,vsizes,tysizes,sizes]):p:=h
theorem oX{p:Prop}(h:p:=by rw[qY];simp;omega):p:=h
theorem oY{p:Prop}(h:p:=by simp[mkV,noneV,Va.size,vsizes,tysizes,sizes]):p:=h
theorem Of{p:Prop}(h:p:=by simp[Value.ownBlock]):p:=h
theorem Ok{p:Prop}(h:p:=by simp[eY];omega):p:=h
theorem On{p:Prop}(h:p:=by unfold bD;decide):p:=h
theorem OF{p:Prop}(h:p:=by rw[Hf];simp;omega):p:=h
theorem OK{p:Prop}(h:p:=by simp only[js];omega):p:=h
theorem ON{p:Prop}(h:p:=by unfold Lf.fD;rw[if_neg (by decide),if_neg (by omega),if_neg (by simp[Lf.qM];rfl),if_neg (by omega),if_neg (by decide)]):p:=h
theorem OR{p:Prop}(h:p:=by unfold Addr.add;split<;>simp_all):p:=h
theorem OS{p:Prop}(h:p:=by rw[tkVs,tkVs,aV,mkV,tkV,if_neg (by decide),tkVs,tkVs,aM,tkV,if_pos rfl];simp only[tkVs];omega):p:=h
theorem Zs{p:Prop}(h:p:=by rw[yb];simp;omega):p:=h
theorem ZD{p:Prop}(h:p:=by simp only[Ah,zL,Gb,kE,qt,jt];omega):p:=h
theorem ZS{p:Prop}(h:p:=by unfold maxLen;omega):p:=h
theorem Xs{p:Prop}(h:p:=by unfold bT;rw[if_neg (by omega),if_neg (by omega)]):p:=h
theorem XS{p:Prop}(h:p:=by simp[aW,aZ,Va.size,vsizes,tysizes,sizes]):p:=h
theorem Kd{p:Prop}(h:p:=by simp[dI,standF,aJ,Ty.t]):p:=h
theorem Kf{p:Prop}(h:p:=by dsimp only;omega):p:=h
theorem Ks{p:Prop}(h:p:=by simp[vasD_map]):p:=h
theorem Kx{p:Prop}(h:p:=by split<;>simp[mkV,aV,noneV,aW,Va.size,vsizes,tysizes,sizes]):p:=h
theorem KK{p:Prop}(h:p:=by rw[jB];simp;omega):p:=h
theorem Ys{p:Prop}(h:p:=by simp[results,Tryz.results184,go_sem]):p:=h
theorem Up{p:Prop}(h:p:=by rw[qY];omega):p:=h
theorem UP{p:Prop}(h:p:=by simp only[jx,js,qa1];omega):p:=h
theorem US{p:Prop}(h:p:=by simp only[qa1];unfold maxLen;omega):p:=h
theorem vc{p:Prop}(h:p:=by rw[qc1];omega):p:=h
theorem vf{p:Prop}(h:p:=by unfold fC;omega):p:=h
theorem vh{p:Prop}(h:p:=by simp[Act.eval,Act.put]):p:=h
theorem vj{p:Prop}(h:p:=by show 0<=m.paid;omega):p:=h
theorem vl{p:Prop}(h:p:=by rw[yb];omega):p:=h
theorem vm{p:Prop}(h:p:=by unfold bD;omega):p:=h
theorem vp{p:Prop}(h:p:=by simp[X.keys]):p:=h
theorem vq{p:Prop}(h:p:=by simp[bO,standF,aJ,Ty.t]):p:=h
theorem vu{p:Prop}(h:p:=by simp only;omega):p:=h
theorem vx{p:Prop}(h:p:=by decide +kernel):p:=h
theorem vy{p:Prop}(h:p:=by simp[Ty.t]):p:=h
theorem vA{p:Prop}(h:p:=by rw[mg];omega):p:=h
theorem oa{c:Prop}[Decidable c]{α:Type _}{a b:α}(h:¬c:=by omega):ite c a b=b:=if_neg h
theorem oc{c:Prop}[Decidable c]{α:Type _}{a b:α}(h:c:=by omega):ite c a b=a:=if_pos h
abbrev cq:=@Go.World.grownBy
abbrev bj:=Option Addr
abbrev bo:=List Value
abbrev bp:=ByteArray
abbrev br:=Nat->Prop
abbrev bt:=Nat->Value
abbrev bw:=List UInt8
abbrev cg:=World
abbrev cm:=Value
open Go.ChangeShapes Go.WideShapes Go.ChangeAt Go.RowKit
def JT{d e p2:Prop}(a:d)(b:e)(c:p2):Hid d/\Hid e/\Hid p2:=⟨a,b,c⟩
def we{e f p2 g:Prop}(a:e)(b:f)(c:p2)(d:g):Hid e/\Hid f/\Hid p2/\Hid g:=⟨a,b,c,d⟩
def wb{f g p2 h i:Prop}(a:f)(b:g)(c:p2)(d:h)(e:i):Hid f/\Hid g/\Hid p2/\Hid h/\Hid i:=⟨a,b,c,d,e⟩
def wg{g h p2 i j k:Prop}(a:g)(b:h)(c:p2)(d:i)(e:j)(f:k):Hid g/\Hid h/\Hid p2/\Hid i/\Hid j/\Hid k:=⟨a,b,c,d,e,f⟩
def wk{h i p2 j k l m:Prop}(a:h)(b:i)(c:p2)(d:j)(e:k)(f:l)(g:m):Hid h/\Hid i/\Hid p2/\Hid j/\Hid k/\Hid l/\Hid m:=⟨a,b,c,d,e,f,g⟩
def wj{i j p2 k l m n o:Prop}(a:i)(b:j)(c:p2)(d:k)(e:l)(f:m)(g:n)(h:o):Hid i/\Hid j/\Hid p2/\Hid k/\Hid l/\Hid m/\Hid n/\Hid o:=⟨a,b,c,d,e,f,g,h⟩
def wq{j k p2 l m n o p p8:Prop}(a:j)(b:k)(c:p2)(d:l)(e:m)(f:n)(g:o)(h:p)(i:p8):Hid j/\Hid k/\Hid p2/\Hid l/\Hid m/\Hid n/\Hid o/\Hid p/\Hid p8:=⟨a,b,c,d,e,f,g,h,i⟩
abbrev qq:=@Option.some.injEq
abbrev qt:=@Bool.and_eq_true
abbrev qu:=@List.getElem?_eq_getElem
abbrev qv:=@List.mem_singleton
abbrev qS:=@Option.map_eq_some_iff
abbrev qT:=@List.getElem?_eq_some_iff
abbrev jj:=@Nat.le_refl
abbrev js:=@List.length_cons
abbrev jt:=@decide_eq_true_eq
abbrev ju:=@Prod.mk.injEq
abbrev jx:=@List.length_append
abbrev jz:=@List.eq_nil_of_length_eq_zero
abbrev ka:=@List.mem_of_getElem?
abbrev kd:=@List.all_eq_true
abbrev ke:=@Go.World.cell?_of_block
abbrev kh:=@Nat.lt_of_lt_of_le
abbrev ki:=@List.mem_append
abbrev kj:=@Array.getElem?_eq_some_iff
abbrev kl:=@List.mem_cons
abbrev km:=@List.drop_eq_getElem_cons
abbrev kB:=@List.mem_map
abbrev kO:=@List.getElem?_cons_zero
abbrev zd:=@List.getElem?_append_left
abbrev zj:=@List.setIfInBounds_toArray
abbrev zE:=@decide_eq_false
abbrev xb:=@decide_eq_true
abbrev xf:=@List.getElem?_append_right
abbrev xj:=@List.all_cons
abbrev xo:=@Nat.le_trans
abbrev xF:=@Go.heap_alloc_new
abbrev xT:=@List.set_cons_succ
abbrev yb:=@Go.IntKind.wrap_i64
abbrev ye:=@Go.Value.slice.injEq
abbrev yv:=@Nat.zero_le
abbrev yy:=@List.getElem_mem
abbrev yW:=@List.set_cons_zero
abbrev ub:=@List.getElem?_cons_succ
abbrev ue:=@Array.getD_eq_getD_getElem?
abbrev ux:=@List.take_of_length_le
abbrev qa0:=@List.map_append
abbrev qa1:=@List.length_nil
abbrev qa2:=@Go.run_underlying
abbrev qa3:=@List.append_assoc
abbrev qa4:=@Go.AllReadyH.cons
abbrev qa5:=@List.cons.injEq
abbrev qa6:=@Option.isNone_iff_eq_none
abbrev qa7:=@Bool.true_and
abbrev qb0:=@List.getElem?_map
abbrev qb1:=@Nat.zero_add
abbrev qb2:=@List.mem_flatMap
abbrev qb3:=@List.length_reverse
abbrev qb4:=@Classical.byContradiction
abbrev qb5:=@Go.World.ownsRow.lt
abbrev qb6:=@List.drop_eq_nil_of_le
abbrev qb7:=@Go.World.block_lt_of_cell?
abbrev qc0:=@List.map_cons
abbrev qc1:=@List.length_take
abbrev qc2:=@Go.Sem.run_bind
abbrev qc3:=@List.length_map
abbrev qc4:=@List.append_nil
abbrev qc5:=@List.getElem_of_mem
abbrev qc6:=@List.take_append_drop
abbrev qc7:=@Array.getElem?_eq_getElem
abbrev qd0:=@Go.AllReadyH.nil
abbrev qd1:=@List.reverse_cons
abbrev qd2:=@List.cons_append
abbrev qd3:=@Bool.false_eq_true
abbrev qd4:=@Go.wpAnyH_ready
abbrev qd5:=@List.flatMap_cons
abbrev qd6:=@Go.World.ownsRow.kept
abbrev qd7:=@Go.World.ownsRow.cells
abbrev qe0:=@List.nodup_append
abbrev qe1:=@decide_eq_false_iff_not
abbrev qe2:=@Bool.or_eq_true
abbrev qe3:=@List.cons.inj
abbrev qe4:=@List.getElem?_take
abbrev qe5:=@List.nil_append
abbrev qe6:=@List.mem_of_mem_take
abbrev qe7:=@List.length_singleton
abbrev qf0:=@Int.le_refl
abbrev qf1:=@Option.bind_eq_some_iff
abbrev qf2:=@List.not_mem_nil
abbrev qf3:=@Nat.add_zero
abbrev qf4:=@Option.isSome_iff_exists
abbrev qf5:=@List.getElem?_set_ne
abbrev qf6:=@List.eq_of_mem_replicate
abbrev qf7:=@of_decide_eq_true
abbrev qg0:=@List.any_eq_true
abbrev qg1:=@Bool.not_eq_true'
abbrev qg2:=@Nat.add_assoc
abbrev qg3:=@Nat.add_mul
abbrev qg4:=@Go.World.ownsRow.alloc
abbrev qg5:=@List.reverse_append
abbrev qg6:=@Option.map_some
abbrev qg7:=@decide_eq_decide
abbrev qh0:=@Go.World.size_alloc
abbrev qh1:=@Bool.false_and
abbrev qh2:=@List.mem_of_mem_drop
abbrev qh3:=@List.getElem?_of_mem
abbrev qh4:=@Go.World.frozen?_of_block
abbrev qh5:=@List.map_nil
abbrev qh6:=@List.getElem?_drop
abbrev qh7:=@beq_eq_false_iff_ne
abbrev ja0:=@Array.length_toList
abbrev ja1:=@Array.getElem?_toList
abbrev ja2:=@Array.getElem?_modify
abbrev ja3:=@Nat.mul_le_mul_right
abbrev ja4:=@List.drop_zero
abbrev ja5:=@Go.Value.agg.injEq
abbrev ja6:=@List.length_eq_one_iff
abbrev ja7:=@List.getElem?_set_self
abbrev jb0:=@Array.eq_empty_of_size_eq_zero
abbrev jb1:=@List.singleton_append
abbrev jb2:=@Go.Addr.mk.injEq
abbrev jb3:=@Go.bodyPost_ret
abbrev jb4:=@List.mem_filter
abbrev jb5:=@Option.getD_some
abbrev jb6:=@List.mem_append_left
abbrev jb7:=@Go.World.ownsRow.frozenAt
abbrev jc0:=@List.take_succ_eq_append_getElem
abbrev jc1:=@List.take_add_one
abbrev jc2:=@Go.DataW.trod_int
abbrev jc3:=@Array.mk.injEq
abbrev jc4:=@Array.all_eq_true_iff_forall_mem
abbrev jc5:=@Go.ByteArray.toList_eq
abbrev jc6:=@Nat.min_eq_left
abbrev jc7:=@List.all_append
abbrev jd0:=@Int.natCast_add
abbrev jd1:=@Bool.eq_iff_iff
abbrev jd2:=@Array.getElem?_setIfInBounds_self_of_lt
abbrev jd3:=@Bool.false_or
abbrev jd4:=@false_and
abbrev jd5:=@Go.World.ownsRow_nil
abbrev jd6:=@List.size_toArray
abbrev jd7:=@List.flatten_cons
abbrev je0:=@Function.comp_def
abbrev je1:=@List.take_left'
abbrev je2:=@List.length_set
abbrev je3:=@Go.Sem.run_pure
abbrev je4:=@ByteArray.data_extract
abbrev je5:=@Nat.mod_eq_of_lt
abbrev je6:=@List.take_length
abbrev je7:=@List.mem_cons_self
abbrev jf0:=@List.mapM_cons
abbrev jf1:=@List.set_append_right
abbrev jf2:=@List.eq_nil_or_concat
abbrev jf3:=@List.concat_eq_append
abbrev jf4:=@Except.ok.injEq
abbrev jf5:=@Nat.lt_or_ge
abbrev jf6:=@List.reverse_reverse
abbrev jf7:=@List.mem_cons_of_mem
abbrev jg0:=@List.map_map
abbrev jg1:=@List.map_inj_left
abbrev jg2:=@Go.info_parts
abbrev jg3:=@beq_iff_eq
abbrev jg4:=@Nat.lt_irrefl
abbrev jg5:=@List.eraseIdx_eq_take_drop_succ
abbrev jg6:=@Go.World.grownBy_alloc
abbrev jg7:=@Nat.and_two_pow_sub_one_eq_mod
abbrev jh0:=@List.take_take
abbrev jh1:=@List.flatMap_nil
abbrev jh2:=@List.take_append_of_le_length
abbrev jh3:=@Nat.zero_mul
abbrev jh4:=@Nat.mul_comm
abbrev jh5:=@List.all_nil
abbrev jh6:=@Array.getElem?_eq_none
abbrev jh7:=@Nat.le_antisymm
abbrev ka0:=@List.sum_cons
abbrev ka1:=@Bool.and_true
abbrev ka2:=@List.mem_append_right
abbrev ka3:=@Bool.and_eq_false_iff
abbrev ka4:=@Go.heap_alloc_old
abbrev ka5:=@Nat.le_succ
abbrev ka6:=@Bool.or_eq_false_iff
abbrev ka7:=@Array.replicate_zero
abbrev kb0:=@Array.replicate_succ
